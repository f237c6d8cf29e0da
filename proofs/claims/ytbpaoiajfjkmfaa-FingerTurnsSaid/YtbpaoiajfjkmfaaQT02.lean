/-
  Words and walks under the law's proof.
-/
import Derived.Deep.RegionHeld3
import Derived.Deep.DrawnRows
import Derived.Test.YtbpaoiajfjkmfaaRows
import Derived.Laws.Bits64b
import Derived.Laws.BitsAllLaws
import Derived.WalkSpells
import Derived.Lib.BufferMore
import Derived.Deep.Slices
import Derived.Deep.Fields
import Derived.ChangeSame
import Derived.SizedLaws
import Derived.IntWalk
import Derived.Deep.QuietTactic
import Derived.BigQuiet
import Derived.Laws.Cover1
import Derived.Sort.Grow
import Derived.Test.YtbpaoiajfjkmfaaQT01
namespace Go.Proofs.Ytbpaoiajfjkmfaa
open Go.RowKit
set_option linter.unusedVariables false
set_option linter.unusedSimpArgs false
theorem row_kept {w w' : World} {base b : Nat} {v : Value} {n : Nat} {xs : List Value} (h : w.ownsRow base 9 1 v n xs) (hb : v.ownBlock ≠ some b) (hk : Lib.OthersKept 5 (some b) w w') : w'.ownsRow base 9 1 v n xs := by
  refine ⟨h.1, ?_⟩
  rcases h.2 with h | ⟨g, cap, cur, hv, hg, hh, r⟩
  · exact .inl h
  · exact .inr ⟨g, cap, cur, hv, hg, hk g _ hh (by rw [hv] at hb; exact hb) (by intro c fz e; simp at e), r⟩
theorem head_at {p : List Int} (h : p ≠ []) : p.getD 0 0 = p.headD 0 := by cases p <;> simp at h ⊢
theorem norm_step {ps : List (List Int)} {k : Nat} (hk : k < ps.length) (last : Bool) : normL last (ps.drop k) = (if last && hw (ps.getD k []) then [32] else []) ++ ((ps.getD k []) ++ normL (hw (ps.getD k [])) (ps.drop (k + 1))) := by
  rw [List.drop_eq_getElem_cons hk]
  simp [normL, List.getD, hk]
set_option maxHeartbeats 2000000 in
set_option maxRecDepth 100000 in
theorem norm_any (s : ByteArray) (hs : s.size ≤ 100000) (w : World) : Calls Try.prog 50 #[.string s] w (Gives (.string (strOfNums (normS (codes s)))) w) := by
  have hlen := normS_len (codes s)
  rw [codes_length] at hlen
  have hpl : ∀ W, Calls Try.prog 59 #[.string s] W (GivesT (partsL (codes s)) W) := fun W => parts_any s hs W
  have hgood := parts_good _ (Nat.le_refl (codes s).length)
  have hbsAll := parts_bs _ (Nat.le_refl (codes s).length) (codes_bs s)
  have htot : Hid (normL false (partsL (codes s)) = normS (codes s)) := Lib.hid rfl
  have hT : Hid ((normS (codes s)).length ≤ 100000) := Lib.hid (by omega)
  have hTb : Hid (Bs (normS (codes s))) := Lib.hid (norm_bs hbsAll false)
  have hgood' := Lib.hid hgood
  have hbs' := Lib.hid hbsAll
  have hpl' := Lib.hid hpl
  have hnum : Hid ((partsL (codes s)).length ≤ 100000) := Lib.hid (by
    have h : ∀ (ps : List (List Int)) (last : Bool), (∀ p ∈ ps, Good p) → ps.length ≤ (normL last ps).length := by
      intro ps
      induction ps with
      | nil => intro _ _; simp
      | cons p r ih =>
        intro last hg
        have h1 := ih (hw p) (fun x hx => hg x (by simp [hx]))
        have h2 : 0 < p.length := List.length_pos_iff.2 (hg p (by simp)).ne
        simp only [normL, List.length_append, List.length_cons]; omega
    have := h _ false hgood
    unfold normS at hlen; omega)
  clear hlen hpl hgood hbsAll hs
  generalize partsL (codes s) = ps at *
  generalize normS (codes s) = T at *
  go_enter Try.func50, Try.ntmps50
  go_wp2_with fail
  refine (hpl'.out _).mono ?_
  rintro e W1 ⟨v, rfl, hrow, hB1⟩
  obtain ⟨a, c, rfl, -, -⟩ := sees_ownT hrow.1
  have hne : Hid ((Value.slice a (ps.map strOfNums).length c).ownBlock ≠ some w.heap.size) := Lib.hid (by
    intro e
    have := hrow.2 _ e
    simp at this; omega)
  have hown0 := hrow.1
  have hbld0 : Hid (Bld w.heap.size w.heap.size [] W1) := Lib.hid ((bld_new w w.heap.size (Nat.le_refl _)).below hB1)
  have hB0 : Hid (Below w.heap.size w W1) := Lib.hid (((Below.refl _ _).alloc (Nat.le_refl _) _).trans (hB1.mono (by simp)))
  have hown0' := Lib.hid hown0
  clear hrow hown0 hB1
  go_wp2
  go_loopw [4, 11] (fun word i wr => ∃ (k : Nat) (acc : List Int) (last : Bool), k ≤ ps.length ∧ i = .int .i64 k ∧ word = .bool last ∧ Hid (acc ++ normL last (ps.drop k) = T) ∧ Hid (Bld w.heap.size w.heap.size acc wr) ∧ Hid (wr.ownsRow 0 9 1 (.slice a (ps.map strOfNums).length c) (ps.map strOfNums).length (txts (ps.map strOfNums))) ∧ Hid (Below w.heap.size w wr)) (fun _ i _ => ps.length - (intOf i).toNat)
  case atStart => exact ⟨0, [], false, by omega, rfl, rfl, Lib.hid (by simpa using htot.out), hbld0, hown0', hB0⟩
  case round =>
    obtain ⟨k, acc, last, hk, rfl, rfl, htt, hbld, hown, hB⟩ := hrel
    have hkb := hnum.out
    by_cases hlt : k < ps.length
    · have hlt' : 0 < (ps.map strOfNums).length := by simp; omega
      obtain ⟨a', c', hv, -, hs⟩ := sees_ownT hown.out
      have ea : a = a' := by injection hv
      subst ea
      clear hv
      rcases hs with h | ⟨b1, o1, rfl, -, g1⟩
      · rw [h] at hlt'; simp at hlt'
      have e1 := g1 k (by simpa using hlt)
      rw [show (ps.map strOfNums).getD k ⟨#[]⟩ = strOfNums (ps.getD k []) by simp [List.getD, hlt]] at e1
      clear g1
      have hgk := hgood'.out (ps.getD k []) (by simp [List.getD, hlt])
      have hbk := hbs'.out (ps.getD k []) (by simp [List.getD, hlt])
      have hst := Lib.hid (norm_step hlt last)
      have hpl : 0 < (ps.getD k []).length := List.length_pos_iff.2 hgk.ne
      have hz : ∀ W, (Instr.index 9 (.string (strOfNums (ps.getD k []))) (.int .i64 0)).run Try.prog W = .ok (.int .u8 ((ps.getD k []).headD 0)) W := fun W => by
        have := ix (strOfNums (ps.getD k [])) 0 (by rw [← codes_length, codes_str hbk]; exact hpl) W
        rw [codes_str hbk, head_at hgk.ne] at this
        exact this
      have hc0 := hbk.at hpl
      rw [head_at hgk.ne] at hc0
      have hcall := Lib.hid (fun W => wordByte_any ((ps.getD k []).headD 0) hc0.1 hc0.2 W)
      rw [show wdB ((ps.getD k []).headD 0) = hw (ps.getD k []) from rfl] at hcall
      have hsz : Hid ((strOfNums (ps.getD k [])).size = (ps.getD k []).length) := Lib.hid (by rw [← codes_length, codes_str hbk])
      have hcd : Hid (codes (strOfNums (ps.getD k [])) = ps.getD k []) := Lib.hid (codes_str hbk)
      clear hgk hbk hpl hc0
      generalize (ps.getD k []).headD 0 = c0 at *
      generalize ps.getD k [] = p at *
      generalize hw p = isw at *
      have hL : Hid ((acc ++ normL last (ps.drop k)).length ≤ 100000) := Lib.hid (by rw [htt.out]; exact hT.out)
      go_wp2_with fail
      refine (hcall.out _).mono ?_
      rintro e w' ⟨rfl, rfl⟩
      by_cases hsep : (last && isw) = true
      · obtain ⟨rfl, rfl⟩ : last = true ∧ isw = true := by cases last <;> cases isw <;> simp_all
        have hwb := Lib.hid (wbyte_any w.heap.size w.heap.size acc 32 wr hbld.out (by have := hL.out; simp at this; omega) hB.out.size)
        clear hsep
        go_wp2_with fail
        refine hwb.out.mono ?_
        rintro e W2 ⟨rfl, hbld2, hB2, hk2⟩
        have hws := Lib.hid (wstr_any w.heap.size w.heap.size (acc ++ [32]) (strOfNums p) W2 hbld2 (by have := hL.out; rw [hst.out] at this; rw [hsz.out]; simp at this ⊢; omega) (by have := hB.out.size; have := hB2.size; omega))
        clear hbld2 hwb
        go_wp2_with fail
        refine hws.out.mono ?_
        rintro e W3 ⟨rfl, hbld3, hB3, hk3⟩
        rw [hcd.out] at hbld3
        have hbld3' := Lib.hid hbld3
        have hown3 := Lib.hid (row_kept (row_kept hown.out hne.out hk2) hne.out hk3)
        have hB3' := Lib.hid ((hB.out.trans hB2).trans hB3)
        have htt3 : Hid ((acc ++ [32] ++ p) ++ normL true (ps.drop (k + 1)) = T) := Lib.hid (by rw [← htt.out, hst.out]; simp)
        clear hbld3 hws hB2 hk2 hB3 hk3 hbld hown hB htt hst hL
        go_wp2
        go_roundw
        case rel => exact ⟨k + 1, _, true, by omega, by go_num, rfl, htt3, hbld3', hown3, hB3'⟩
        case measure => simp [intOf]; omega
      · have hws := Lib.hid (wstr_any w.heap.size w.heap.size acc (strOfNums p) wr hbld.out (by have := hL.out; rw [hst.out] at this; rw [hsz.out]; simp at this ⊢; omega) hB.out.size)
        have htt3 : Hid ((acc ++ p) ++ normL isw (ps.drop (k + 1)) = T) := Lib.hid (by rw [← htt.out, hst.out, if_neg hsep]; simp)
        have hsp : (last && isw) = false := by simpa using hsep
        clear hsep
        cases last
        · go_wp2_with fail
          refine hws.out.mono ?_
          rintro e W3 ⟨rfl, hbld3, hB3, hk3⟩
          rw [hcd.out] at hbld3
          have hbld3' := Lib.hid hbld3
          have hown3 := Lib.hid (row_kept hown.out hne.out hk3)
          have hB3' := Lib.hid (hB.out.trans hB3)
          clear hbld3 hws hB3 hk3 hbld hown hB htt hst hL
          go_wp2
          go_roundw
          case rel => exact ⟨k + 1, _, isw, by omega, by go_num, rfl, htt3, hbld3', hown3, hB3'⟩
          case measure => simp [intOf]; omega
        · obtain rfl : isw = false := by simpa using hsp
          go_wp2_with fail
          refine hws.out.mono ?_
          rintro e W3 ⟨rfl, hbld3, hB3, hk3⟩
          rw [hcd.out] at hbld3
          have hbld3' := Lib.hid hbld3
          have hown3 := Lib.hid (row_kept hown.out hne.out hk3)
          have hB3' := Lib.hid (hB.out.trans hB3)
          clear hbld3 hws hB3 hk3 hbld hown hB htt hst hL
          go_wp2
          go_roundw
          case rel => exact ⟨k + 1, _, false, by omega, by go_num, rfl, htt3, hbld3', hown3, hB3'⟩
          case measure => simp [intOf]; omega
    · have hfin : Hid (acc = T) := Lib.hid (by
        have := htt.out
        rw [List.drop_of_length_le (by omega)] at this
        simpa [normL] using this)
      have hstr := Lib.hid (bstr_any w.heap.size w.heap.size acc wr hbld.out (by rw [hfin.out]; exact hTb.out) hB.out.size)
      clear hbld
      go_wp2_with fail
      refine hstr.out.mono ?_
      rintro e W3 ⟨rfl, -, hB3, -⟩
      have hres : Gives (.string (strOfNums T)) w (.returned (.string (strOfNums acc))) W3 := ⟨by rw [hfin.out], hB.out.trans hB3⟩
      clear hstr hB3
      go_wp2
      go_ret
      exact hres
end Go.Proofs.Ytbpaoiajfjkmfaa
namespace Go.Proofs.Ytbpaoiajfjkmfaa
open Go.RowKit
set_option linter.unusedVariables false
theorem wp_drawn_on (S : World → Prop) {P : Program} {ops : Array Oper} {Q : Exit → Act → World → Prop} {id : Nat} {a : Act} {w : World} (hm : P.follows .mixedOrders = true) (hS : S w.drew)
    (h : S w.drew → wpAnyH P .any ops Q S ops.size (Array.replicate ops.size false) a w.drew) : (Code.region id ops true).wp P Q a w :=
  wp_region_held_drew hm hS h
end Go.Proofs.Ytbpaoiajfjkmfaa
namespace Go.Proofs.Ytbpaoiajfjkmfaa
open Go.RowKit
set_option linter.unusedVariables false
set_option linter.unusedSimpArgs false
theorem GivesT.open {ls : List (List Int)} {w w' : World} {e : Ending} (h : GivesT ls w e w') : ∃ a c, e = .returned (.slice a (ls.map strOfNums).length c) ∧ (ls.map strOfNums).length ≤ c ∧ SeesT w'.heap.size w' a (ls.map strOfNums) ∧ Below w.heap.size w w' := by
  obtain ⟨v, rfl, hr, hb⟩ := h
  obtain ⟨a, c, rfl, -, hs⟩ := sees_ownT hr.1
  refine ⟨a, c, rfl, ?_, hs, hb⟩
  rcases hr.1.2 with ⟨h1, h2⟩ | ⟨g, cap, cur, h1, _, _, h2, _⟩
  · injection h1 with _ h3 h4; omega
  · injection h1 with _ h3 h4; omega
end Go.Proofs.Ytbpaoiajfjkmfaa
namespace Go.Proofs.Ytbpaoiajfjkmfaa
set_option linter.unusedVariables false
def leb (n : Nat) : List Int := if n < 128 then [(n : Int)] else ((n % 128 + 128 : Nat) : Int) :: leb (n / 128)
termination_by n
decreasing_by omega
theorem leb_small {n : Nat} (h : n < 128) : leb n = [(n : Int)] := by rw [leb]; simp [h]
theorem leb_big {n : Nat} (h : 128 ≤ n) : leb n = ((n % 128 + 128 : Nat) : Int) :: leb (n / 128) := by rw [leb]; simp [show ¬ n < 128 by omega]
def U64 (n : Int) : Prop := 0 ≤ n ∧ n ≤ 18446744073709551615
theorem leb_len (k : Nat) : ∀ n, n < 128 ^ (k + 1) → (leb n).length ≤ k + 1 := by
  induction k with
  | zero => intro n h; rw [leb_small (by simpa using h)]; simp
  | succ k ih =>
    intro n h
    by_cases hn : n < 128
    · rw [leb_small hn]; simp
    · rw [leb_big (by omega)]
      have := ih (n / 128) (by rw [Nat.div_lt_iff_lt_mul (by omega)]; rw [Nat.pow_succ] at h; exact h)
      simp; omega
theorem leb_len64 {n : Nat} (h : n ≤ 18446744073709551615) : (leb n).length ≤ 10 := leb_len 9 n (by omega)
theorem leb_int {m : Int} (h : 128 ≤ m) : leb m.toNat = (m % 128 + 128) :: leb (m / 128).toNat := by
  rw [leb_big (by omega)]
  rw [show m.toNat / 128 = (m / 128).toNat by omega, show ((m.toNat % 128 + 128 : Nat) : Int) = m % 128 + 128 by omega]
theorem leb_int_len {m : Int} (h : 128 ≤ m) : (leb m.toNat).length = (leb (m / 128).toNat).length + 1 := by rw [leb_int h]; simp
theorem leb_int_small {m : Int} (h0 : 0 ≤ m) (h : m < 128) : leb m.toNat = [m] := by rw [leb_small (by omega)]; simp; omega
theorem leb_pos (n : Nat) : 1 ≤ (leb n).length := by
  rw [leb]; split <;> simp
theorem U64.le10 {n : Int} (h : U64 n) : (leb n.toNat).length ≤ 10 := leb_len64 (by unfold U64 at h; omega)
theorem leb_bytes (n : Nat) : Bs (leb n) := by
  induction n using Nat.strongRecOn with
  | _ n ih =>
    by_cases h : n < 128
    · rw [leb_small h]; intro x hx; simp at hx; omega
    · rw [leb_big (by omega)]
      intro x hx
      rcases List.mem_cons.1 hx with rfl | hx
      · omega
      · exact ih (n / 128) (by omega) x hx
end Go.Proofs.Ytbpaoiajfjkmfaa
namespace Go.Proofs.Ytbpaoiajfjkmfaa
open Go.RowKit
set_option linter.unusedVariables false
set_option maxHeartbeats 400000 in
theorem size_any (n : Int) (w : World) (h0 : 0 ≤ n) (h1 : U64 n) :
    Calls Try.prog 46 #[.int .u64 n] w fun e w' => e = .returned (.int .i64 (leb n.toNat).length) ∧ w = w' := by
  have hten := h1.le10
  go_enter Try.func46, Try.ntmps46
  go_wp2
  go_loop [0, 3] (fun x s => ∃ (m : Int) (k : Nat), 0 ≤ m ∧ m ≤ n ∧ k ≤ 10 ∧ (leb n.toNat).length + 1 = k + (leb m.toNat).length ∧ x = .int .u64 m ∧ s = .int .i64 k) (fun x _ => (intOf x).toNat)
  case atStart => exact ⟨n, 1, h0, by omega, by omega, by omega, rfl, rfl⟩
  case round =>
    obtain ⟨m, k, hm0, hmn, hk, hl, rfl, rfl⟩ := hrel
    have hp := leb_pos m.toNat
    by_cases hm : m < 128
    · have H : k = (leb n.toNat).length := by rw [leb_int_small hm0 hm] at hl; simp at hl; omega
      have H' := Lib.hid H
      clear H
      go_wp2
      go_ret
      exact ⟨by rw [← H'.out]; rfl, rfl⟩
    · have hs := leb_int_len (m := m) (by omega)
      have hp2 := leb_pos (m / 128).toNat
      have hk' : k + 1 ≤ 10 := by omega
      have hl' : (leb n.toNat).length + 1 = k + 1 + (leb (m / 128).toNat).length := by omega
      have hl2 := Lib.hid hl'
      clear hl hs hp hp2 hl'
      go_wp2
      go_round
      case rel => exact ⟨m / 128, k + 1, by omega, by omega, hk', hl2.out, rfl, by go_num⟩
      case measure => simp [intOf]; omega
end Go.Proofs.Ytbpaoiajfjkmfaa
namespace Go.Proofs.Ytbpaoiajfjkmfaa
open Go.RowKit
set_option linter.unusedVariables false
theorem orB (m : Int) (h : 0 ≤ m) : bits .or .u8 (m % 256) 128 = m % 128 + 128 := by
  have : ∀ x : Fin 256, bits .or .u8 (x.val : Int) 128 = (x.val : Int) % 128 + 128 := by decide +kernel
  have h2 := this ⟨(m % 256).toNat, by omega⟩
  simp only [] at h2
  rw [show (((m % 256).toNat : Nat) : Int) = m % 256 by omega] at h2
  rw [h2]; omega
theorem infoU8 : (Try.prog.info? 5).map (fun i => (i.zero, i.size, i.bytes)) = some (some (.int .u8 0), 1, 1) := by kernel_rfl
set_option maxRecDepth 100000 in
set_option maxHeartbeats 1000000 in
theorem put_any (n : Int) (w : World) (h0 : 0 ≤ n) (h1 : U64 n) :
    Calls Try.prog 35 #[.int .u64 n] w (Made 5 .u8 w (leb n.toNat)) := by
  obtain ⟨i0, hi, hz0, hz1, hz2⟩ := info_parts infoU8
  have hten := h1.le10
  go_enter Try.func35, Try.ntmps35
  go_wp2_with (first
    | (go_at_call 46; refine (size_any _ _ h0 h1).mono ?_; rintro e w' ⟨rfl, rfl⟩)
    | (at_make; refine wpList_make_own _ rfl _ _ 46 rfl w.heap.size 5 i0 (.int .u8 0) 1 Try.underlying46 hi hz0 hz1 .i64 .i64 _ (leb n.toNat).length rfl rfl rfl (by rw [hz2]; omega) (by unfold maxLen; omega) (Nat.le_refl _) ?_))
  intro w1 hown hgrow
  have hb : Below w.heap.size w w1 := (Below.refl _ _).grown hgrow (Nat.le_refl _) (by simp)
  clear hgrow
  go_wp2
  go_loopw [0, 3] (fun x v wr => ∃ (m : Int) (pre : List Int), 0 ≤ m ∧ m ≤ n ∧ Hid (leb n.toNat = pre ++ leb m.toNat) ∧ x = .int .u64 m ∧ wr.ownsRow w.heap.size 5 1 v pre.length (nums .u8 pre) ∧ Below w.heap.size w wr) (fun x _ _ => (intOf x).toNat)
  case atStart => exact ⟨n, [], h0, by omega, Lib.hid rfl, rfl, hown, hb⟩
  case round =>
    obtain ⟨m, pre, hm0, hmn, hl, rfl, hown, hb⟩ := hrel
    have hpl : pre.length ≤ 10 := by have := hl.out; rw [this] at hten; simp at hten; omega
    by_cases hm : m < 128
    · go_wp2_with (first
        | (at_builtin; refine wpList_append1 _ rfl _ _ 46 rfl w 5 i0 (.int .u8 0) 1 Try.underlying46 hi hz0 hz1 hz2 rfl .u8 m _ _ hown hb rfl rfl (by omega) (by omega) ?_; intro v' w' hown' hb'))
      go_ret
      have e : leb n.toNat = pre ++ [m] := by rw [hl.out, leb_int_small hm0 hm]
      exact ⟨_, rfl, by rw [e]; exact hown', hb'⟩
    · have e1 := orB m hm0
      go_wp2_with (first
        | (at_builtin; refine wpList_append1 _ rfl _ _ 46 rfl w 5 i0 (.int .u8 0) 1 Try.underlying46 hi hz0 hz1 hz2 rfl .u8 (m % 128 + 128) _ _ hown hb rfl rfl (by omega) (by omega) ?_; intro v' w' hown' hb'))
      go_roundw
      case rel => exact ⟨m / 128, pre ++ [m % 128 + 128], by omega, by omega, Lib.hid (by rw [hl.out, leb_int (by omega)]; simp), rfl, hown', hb'⟩
      case measure => simp [intOf]; omega
end Go.Proofs.Ytbpaoiajfjkmfaa
namespace Go.Proofs.Ytbpaoiajfjkmfaa
set_option linter.unusedVariables false
theorem u64_wrap (n : Int) : IntKind.u64.wrap n = n % 18446744073709551616 := IntKind.wrap_u64 n
end Go.Proofs.Ytbpaoiajfjkmfaa
namespace Go.Proofs.Ytbpaoiajfjkmfaa
open Go.RowKit
set_option linter.unusedVariables false
theorem Bs.drop {l : List Int} (h : Bs l) (n : Nat) : Bs (l.drop n) := fun x hx => h x (List.mem_of_mem_drop hx)
end Go.Proofs.Ytbpaoiajfjkmfaa
namespace Go.Proofs.Ytbpaoiajfjkmfaa
open Go.RowKit
set_option linter.unusedVariables false
theorem clone_any (A : Option Addr) (l : List Int) (n c : Nat) (hn : n = l.length) (B : Nat) (w : World) (hl : l.length ≤ 140737488355328) (hs : Sees .u8 B w A l) :
    Calls Try.prog 64 #[.slice A n c] w (Made 5 .u8 w l) := by
  obtain ⟨i0, hi, hz0, hz1, hz2⟩ := info_parts infoU8
  subst hn
  cases A with
  | none =>
    have hl0 : l = [] := by
      rcases hs with h | ⟨b, off, h, _⟩
      · exact h
      · cases h
    subst hl0
    have hq := fun W => Lib.run_eql_slice_nil_nil (P := Try.prog) W (t := 46) (e := 5) 0 c Try.underlying46
    go_enter Try.func64, Try.ntmps64
    go_wp2
    go_ret
    exact ⟨_, rfl, ⟨rfl, .inl ⟨rfl, rfl⟩⟩, Below.refl _ _⟩
  | some ad =>
    have hq := fun W => Lib.run_eql_slice_some_nil (P := Try.prog) W (t := 46) (e := 5) ad l.length c Try.underlying46
    have hB : Below w.heap.size w (w.alloc (.cells #[] 5)) := (Below.refl _ _).alloc (Nat.le_refl _) _
    have hs' : Sees .u8 B (w.alloc (.cells #[] 5)) (some ad) l := by
      rcases hs with h | ⟨b, off, h, h2, h3⟩
      · exact .inl h
      · by_cases h0 : l = []
        · exact .inl h0
        · have hlt := World.block_lt_of_cell? w _ (h3 0 (List.length_pos_iff.2 h0))
          exact .inr ⟨b, off, h, h2, fun i hi => (hB.cell (p := ⟨b, off + i, none⟩) hlt).trans (h3 i hi)⟩
    have hl' := Lib.hid hl
    go_enter Try.func64, Try.ntmps64
    go_wp2_with (at_builtin; refine wpList_append_foot _ rfl (.tmp 5) (.tmp 6) 46 rfl 5 i0 (.int .u8 0) 1 Try.underlying46 hi hz0 hz1 hz2 rfl .u8 _ [] (World.ownsRow_made w #[] 0 (Nat.zero_le _) (by decide) (by simp)) B (some ad) l hs' l.length c rfl rfl rfl (by have := hl'.out; simp [maxLen]; omega) (by have := hl'.out; simp; omega) ?_; intro v' w' hown hgrow hblk; simp only [List.nil_append] at hown)
    go_ret
    have hown' : w'.ownsRow w.heap.size 5 1 v' l.length (nums .u8 l) := by
      refine ⟨hown.1, ?_⟩
      rcases hown.2 with h | ⟨g, cap, cur, hv, _, r⟩
      · exact .inl h
      · refine .inr ⟨g, cap, cur, hv, ?_, r⟩
        subst hv
        rcases hblk with h | h <;> simp [Value.ownBlock] at h <;> omega
    exact ⟨v', rfl, hown', hB.grown hgrow hB.size (by intro k hk; simp [Value.ownBlock] at hk; omega)⟩
def Pn (w : World) (g : Nat) (F : List Nat) (l : List Int) : Prop :=
  ∃ v, Holds w g 78 #[v] ∧ w.ownsRow 0 5 1 v l.length (nums .u8 l) ∧ g ∈ F ∧ (∀ b, v.ownBlock = some b → b ∈ F ∧ b ≠ g) ∧ ∀ x ∈ F, x < w.heap.size
def Turns (F F' : List Nat) (w w' : World) : Prop := BelowE F w.heap.size w w' ∧ ∀ x ∈ F', x ∈ F ∨ w.heap.size ≤ x
def Writes (g : Nat) (F : List Nat) (l : List Int) (w : World) (e : Ending) (w' : World) : Prop := e = .returned (.tuple #[]) ∧ ∃ F', Pn w' g F' l ∧ Turns F F' w w'
theorem Turns.trans {F F' F'' : List Nat} {w w' w'' : World} (h : Turns F F' w w') (k : Turns F' F'' w' w'') : Turns F F'' w w'' := by
  refine ⟨h.1.trans ((k.1.mono h.1.size).less ?_), ?_⟩
  · intro x hx hl
    rcases h.2 x hx with h1 | h1
    · exact h1
    · omega
  · intro x hx
    rcases k.2 x hx with h1 | h1
    · exact h.2 x h1
    · right; have := h.1.size; omega
theorem BelowE.toBelow {X : List Nat} {B : Nat} {w w' : World} (h : BelowE X B w w') (hx : ∀ x ∈ X, B ≤ x) : Below B w w' :=
  (h.less (Y := []) (fun x hm hl => absurd (hx x hm) (by omega))).none
theorem Pn.below {w w' : World} {g : Nat} {F : List Nat} {l : List Int} (h : Pn w g F l) (hb : Below w.heap.size w w') : Pn w' g F l := by
  obtain ⟨v, h1, h2, h3, h4, h5⟩ := h
  refine ⟨v, h1.below hb h1.lt, ?_, h3, h4, fun x hx => Nat.lt_of_lt_of_le (h5 x hx) hb.size⟩
  refine ⟨h2.1, ?_⟩
  rcases h2.2 with h | ⟨g', cap, cur, hv, hg, hh, r⟩
  · exact .inl h
  · exact .inr ⟨g', cap, cur, hv, hg, (hb.block g' (Array.getElem?_eq_some_iff.1 hh).1).trans hh, r⟩
theorem Pn.belowE {w w' : World} {X : List Nat} {g : Nat} {F : List Nat} {l : List Int} (h : Pn w g F l) (hb : BelowE X w.heap.size w w') (hx : ∀ x ∈ F, x ∉ X) : Pn w' g F l := by
  obtain ⟨v, h1, h2, h3, h4, h5⟩ := h
  refine ⟨v, h1.belowE hb h1.lt (hx g h3), ?_, h3, h4, fun x hx => Nat.lt_of_lt_of_le (h5 x hx) hb.size⟩
  refine ⟨h2.1, ?_⟩
  rcases h2.2 with h | ⟨g', cap, cur, hv, hg, hh, r⟩
  · exact .inl h
  · exact .inr ⟨g', cap, cur, hv, hg, (hb.block g' (Array.getElem?_eq_some_iff.1 hh).1 (hx g' (h4 g' (by rw [hv]; rfl)).1)).trans hh, r⟩
theorem pput_any (g : Nat) (F : List Nat) (l : List Int) (A : Option Addr) (r : List Int) (n c : Nat) (hn : n = r.length) (B : Nat) (w : World) (h : Pn w g F l) (hs : Sees .u8 B w A r) (hl : l.length + r.length ≤ 140737488355328) :
    Calls Try.prog 58 #[.pointer (some ⟨g, 0, none⟩), .slice A n c] w (Writes g F (l ++ r) w) := by
  obtain ⟨i0, hi, hz0, hz1, hz2⟩ := info_parts infoU8
  subst hn
  obtain ⟨v, h1, h2, h3, h4, h5⟩ := h
  have c0 := h1.cell 0
  simp at c0
  have h1' := Lib.hid h1
  have hl' := Lib.hid hl
  clear h1 hl
  go_enter Try.func58, Try.ntmps58
  go_wp2_with (at_builtin; (refine wpList_append_foot _ rfl (.tmp 10) (.tmp 11) 46 rfl 5 i0 (.int .u8 0) 1 Try.underlying46 hi hz0 hz1 hz2 rfl .u8 v l h2 B A r hs r.length c rfl rfl rfl (by have := hl'.out; simp [maxLen]; omega) (by have := hl'.out; omega) ?_; intro v' w' hown hgrow hblk; have lg := h1'.out.lt; have kg : Holds w' g 78 #[v] := (hgrow.block g lg (fun e => (h4 g e.symm).2 rfl)).trans h1'.out; have k0 := kg.cell 0; have kf := kg.free 0; simp at k0; obtain ⟨aa, cc, rfl, -, -⟩ := sees_own hown))
  go_end0
  obtain ⟨v', hv'⟩ : ∃ v', v' = Value.slice aa (l ++ r).length cc := ⟨_, rfl⟩
  have hv2 : Value.slice aa (l.length + r.length) cc = v' := by rw [hv', List.length_append]
  rw [← hv'] at hown hblk
  rw [hv2]
  clear hv' hv2
  refine ⟨rfl, g :: v'.ownBlock.toList, ⟨v', ?_, ?_, by simp, ?_, ?_⟩, ?_, ?_⟩
  · have := kg.set 0 v'
    simpa using this
  · refine ⟨hown.1, ?_⟩
    rcases hown.2 with h | ⟨g', cap, cur, hv, hg, hh, r⟩
    · exact .inl h
    · refine .inr ⟨g', cap, cur, hv, hg, ?_, r⟩
      rw [Below.heap_setCell _ _ _ _ ?_]
      · exact hh
      · show g' ≠ g
        rcases hblk with h5 | h5
        · exact (h4 g' (by rw [← h5, hv]; rfl)).2
        · rw [hv] at h5; simp [Value.ownBlock] at h5; omega
  · intro b hb
    rw [hb]
    refine ⟨by simp, ?_⟩
    rcases hblk with h5 | h5
    · exact (h4 b (by rw [← h5, hb])).2
    · rw [hb] at h5; simp at h5; omega
  · intro x hx
    have hz : (w'.setCell ⟨g, 0, none⟩ v').heap.size = w'.heap.size := by simp [World.setCell]
    rw [hz]
    simp at hx
    rcases hx with rfl | hx
    · exact kg.lt
    · exact (hown.lt x hx).2
  · have hb0 : BelowE F w.heap.size w w' := (BelowE.refl _ _ _).grown hgrow (Nat.le_refl _) (fun k hk _ => (h4 k hk).1)
    exact hb0.setIn (p := ⟨g, 0, none⟩) h3 _
  · intro x hx
    simp at hx
    rcases hx with rfl | hx
    · exact .inl h3
    · rcases hblk with h5 | h5
      · exact .inl (h4 x (by rw [← h5]; exact hx)).1
      · rw [hx] at h5; simp at h5; right; omega
end Go.Proofs.Ytbpaoiajfjkmfaa
namespace Go.Proofs.Ytbpaoiajfjkmfaa
open Go.RowKit
set_option linter.unusedVariables false
def NewPen (w : World) (e : Ending) (w' : World) : Prop := ∃ g F, e = .returned (.pointer (some ⟨g, 0, none⟩)) ∧ Pn w' g F [] ∧ Below w.heap.size w w' ∧ ∀ x ∈ F, w.heap.size ≤ x
theorem new_any (w : World) : Calls Try.prog 47 #[] w (NewPen w) := by
  go_enter Try.func47, Try.ntmps47
  go_wp2
  go_ret
  exact ⟨w.heap.size, [w.heap.size], rfl, ⟨.slice none 0 0, Holds.new _ _ _, ⟨rfl, .inl ⟨rfl, rfl⟩⟩, by simp, by simp [Value.ownBlock], by simp⟩, (Below.refl _ _).alloc (Nat.le_refl _) _, by simp⟩
theorem Writes.after {g : Nat} {F : List Nat} {l : List Int} {w w1 w' : World} {e : Ending} (hb : Below w.heap.size w w1) (h : Writes g F l w1 e w') : Writes g F l w e w' := by
  obtain ⟨h0, F', h1, h2, h3⟩ := h
  refine ⟨h0, F', h1, (BelowE.of hb).trans (h2.mono hb.size), fun x hx => ?_⟩
  rcases h3 x hx with h | h
  · exact .inl h
  · right; have := hb.size; omega
theorem Pn.ne {w : World} {g : Nat} {F : List Nat} {l : List Int} (h : Pn w g F l) : g < w.heap.size := by
  obtain ⟨v, h1, _⟩ := h; exact h1.lt
theorem pu_any (g : Nat) (F : List Nat) (l : List Int) (n : Int) (w : World) (h : Pn w g F l) (h0 : 0 ≤ n) (hU : U64 n) (hl : l.length ≤ 100000000000000) :
    Calls Try.prog 48 #[.pointer (some ⟨g, 0, none⟩), .int .u64 n] w (Writes g F (l ++ leb n.toNat) w) := by
  have hten := hU.le10
  have hput := Lib.hid (fun (A : Option Addr) (c : Nat) (w' : World) (hb : Below w.heap.size w w') (hs : Sees .u8 w'.heap.size w' A (leb n.toNat)) => pput_any g F l A (leb n.toNat) _ c rfl w'.heap.size w' (h.below hb) hs (by omega))
  clear h hl
  go_enter Try.func48, Try.ntmps48
  go_wp2_with fail
  refine (put_any n _ h0 hU).mono ?_
  intro e w1 h1
  obtain ⟨a1, c1, rfl, hs1, hb1⟩ := h1.open (leb n.toNat).length rfl
  clear h1
  go_wp2_with fail
  refine (hput.out a1 c1 w1 hb1 hs1).mono ?_
  rintro e w2 hw
  have hw' := Lib.hid hw
  obtain ⟨rfl, -⟩ := hw
  go_wp2
  go_end0
  exact Writes.after hb1 hw'.out
theorem ptext_any (g : Nat) (F : List Nat) (l : List Int) (s : ByteArray) (w : World) (h : Pn w g F l) (hs : s.size ≤ 140737488351232) (hl : l.length ≤ 100000000000000) (hls : l.length + s.size ≤ 140737488355000) :
    Calls Try.prog 49 #[.pointer (some ⟨g, 0, none⟩), .string s] w (Writes g F (l ++ (leb s.size ++ codes s)) w) := by
  have hU : U64 (s.size : Int) := by unfold U64; omega
  have hten := hU.le10
  have hput := Lib.hid (pu_any g F l (s.size : Int) w h (by omega) hU hl)
  have hlen : (codes s).length = s.size := codes_length s
  have htext := Lib.hid (fun (F' : List Nat) (A : Option Addr) (c : Nat) (w1 w2 : World) (hp : Pn w1 g F' (l ++ leb s.size)) (hb : Below w1.heap.size w1 w2) (hse : Sees .u8 w2.heap.size w2 A (codes s)) => pput_any g F' (l ++ leb s.size) A (codes s) s.size c hlen.symm w2.heap.size w2 (hp.below hb) hse (by simp at hten ⊢; omega))
  have hcv := Lib.hid (fun W : World => run_bytes_sees (P := Try.prog) W 9 46 5 s Try.underlying9 Try.underlying46 Try.underlying5)
  have hsz : s.size ≤ 9223372036854775807 := by omega
  clear h hl hten hlen hls hs hU
  go_enter Try.func49, Try.ntmps49
  go_wp2_with fail
  refine hput.out.mono ?_
  rintro e w1 ⟨rfl, F1, hp1, ht1⟩
  simp only [Int.toNat_natCast] at hp1
  obtain ⟨c, w2, hrun, hc, hse, hb, hz⟩ := hcv.out w1
  have hz' := Lib.hid hz
  clear hz
  go_wp2_with fail
  refine (htext.out F1 _ c w1 w2 hp1 hb hse).mono ?_
  rintro e w3 ⟨rfl, F2, hp2, ht2⟩
  go_wp2
  go_end0
  refine ⟨rfl, F2, by rw [← List.append_assoc]; exact hp2, ht1.trans ⟨(BelowE.of hb).trans (ht2.1.mono hb.size), fun x hx => ?_⟩⟩
  rcases ht2.2 x hx with h | h
  · exact .inl h
  · right; have := hb.size; omega
theorem pbytes_any (g : Nat) (F : List Nat) (l : List Int) (w : World) (h : Pn w g F l) (hl : l.length ≤ 140737488355328) :
    Calls Try.prog 51 #[.pointer (some ⟨g, 0, none⟩)] w (Made 5 .u8 w l) := by
  obtain ⟨v, h1, h2, _⟩ := h
  have c0 := h1.cell 0
  simp at c0
  obtain ⟨a, c, rfl, _, hs⟩ := sees_own h2
  have hcl := Lib.hid (clone_any a l l.length c rfl w.heap.size w hl hs)
  clear h1 h2 hs hl
  go_enter Try.func51, Try.ntmps51
  go_wp2_with fail
  refine hcl.out.mono ?_
  rintro e w1 hm
  have hm' := Lib.hid hm
  obtain ⟨v, rfl, -⟩ := hm
  go_wp2
  go_ret
  exact hm'.out
end Go.Proofs.Ytbpaoiajfjkmfaa
namespace Go.Proofs.Ytbpaoiajfjkmfaa
open Go.RowKit
set_option linter.unusedVariables false
set_option linter.unusedSimpArgs false
def keyL (k : Int) (f : ByteArray) (x : List Int) : List Int := leb (max k 0).toNat ++ ((leb f.size ++ codes f) ++ (leb x.length ++ x))
theorem strOf_size_codes {x : List Int} (h : Bs x) : leb (strOfNums x).size ++ codes (strOfNums x) = leb x.length ++ x := by
  rw [codes_str h, ← codes_length, codes_str h]
theorem Turns.allw {W w w' : World} {F F' : List Nat} (h : Turns F F' w w') (hb : Below W.heap.size W w) (hF : ∀ x ∈ F, W.heap.size ≤ x) : Below W.heap.size W w' ∧ ∀ x ∈ F', W.heap.size ≤ x :=
  ⟨hb.trans ((h.1.mono hb.size).toBelow hF), fun x hx => (h.2 x hx).elim (hF x) (fun h => Nat.le_trans hb.size h)⟩
set_option maxHeartbeats 2000000 in
theorem key_any (k : Int) (hk : (Lit.int .i64 k).wf = true) (f s : ByteArray) (hf : f.size ≤ 100000) (hs : s.size ≤ 100000) (w : World) :
    Calls Try.prog 36 #[.int .i64 k, .string f, .string s] w (Made 5 .u8 w (keyL k f (normS (codes s)))) := by
  have hk' := i64_wf hk
  have hn := Lib.hid (fun W => norm_any s hs W)
  have hT : (normS (codes s)).length ≤ 100000 := by have := normS_len (codes s); rw [codes_length] at this; omega
  have hTb : Bs (normS (codes s)) := norm_bs (parts_bs _ (Nat.le_refl _) (codes_bs s)) false
  have hm0 : 0 ≤ max k 0 := by omega
  have hm1 : U64 (max k 0) := by unfold U64; omega
  have h10 := hm1.le10
  have h10f := (show U64 (f.size : Int) by unfold U64; omega).le10
  simp only [Int.toNat_natCast] at h10f
  have hfl := codes_length f
  have hsz : (strOfNums (normS (codes s))).size ≤ 100000 := by rw [strOfNums_size]; exact hT
  have hx := Lib.hid (strOf_size_codes hTb)
  have hwr : IntKind.u64.wrap (max k 0) = max k 0 := wrap_u64_in hm0 hm1.2
  have hmax : Hid (max k 0 = max k 0) := Lib.hid rfl
  unfold keyL
  generalize normS (codes s) = T at *
  generalize strOfNums T = sT at *
  have p1 : ∀ g F W, Pn W g F [] → Calls Try.prog 48 #[.pointer (some ⟨g, 0, none⟩), .int .u64 (max k 0)] W (Writes g F (leb (max k 0).toNat) W) := fun g F W h => pu_any g F [] _ W h hm0 hm1 (by simp)
  have p2 : ∀ g F W, Pn W g F (leb (max k 0).toNat) → Calls Try.prog 49 #[.pointer (some ⟨g, 0, none⟩), .string f] W (Writes g F (leb (max k 0).toNat ++ (leb f.size ++ codes f)) W) := fun g F W h => ptext_any g F _ f W h (by omega) (by omega) (by omega)
  have p3 : ∀ g F W, Pn W g F (leb (max k 0).toNat ++ (leb f.size ++ codes f)) → Calls Try.prog 49 #[.pointer (some ⟨g, 0, none⟩), .string sT] W (Writes g F (leb (max k 0).toNat ++ ((leb f.size ++ codes f) ++ (leb T.length ++ T))) W) := fun g F W h => by
    have := ptext_any g F _ sT W h (by omega) (by simp; omega) (by simp; omega)
    rw [hx.out, List.append_assoc] at this
    exact this
  have p4 : ∀ g F W, Pn W g F (leb (max k 0).toNat ++ ((leb f.size ++ codes f) ++ (leb T.length ++ T))) → Calls Try.prog 51 #[.pointer (some ⟨g, 0, none⟩)] W (Made 5 .u8 W (leb (max k 0).toNat ++ ((leb f.size ++ codes f) ++ (leb T.length ++ T)))) := fun g F W h => pbytes_any g F _ W h (by
    have := (show U64 (T.length : Int) by unfold U64; omega).le10
    simp only [Int.toNat_natCast] at this
    simp; omega)
  have p1' := Lib.hid p1
  have p2' := Lib.hid p2
  have p3' := Lib.hid p3
  have p4' := Lib.hid p4
  clear p1 p2 p3 p4 h10 h10f hfl hsz hx hT hTb hf hs hk
  generalize leb (max k 0).toNat ++ ((leb f.size ++ codes f) ++ (leb T.length ++ T)) = L3 at *
  generalize leb (max k 0).toNat ++ (leb f.size ++ codes f) = L2 at *
  generalize leb (max k 0).toNat = L1 at *
  go_enter Try.func36, Try.ntmps36
  go_wp2_with fail
  refine (new_any w).mono ?_
  rintro e w1 ⟨g, F, rfl, q0, b0, f0⟩
  have q0' := Lib.hid q0
  have b0' := Lib.hid b0
  have f0' := Lib.hid f0
  clear q0 b0 f0
  go_wp2_with fail
  refine (p1'.out g F w1 q0'.out).mono ?_
  rintro e w2 ⟨rfl, F1, q1, t1⟩
  obtain ⟨b1, f1⟩ := t1.allw b0'.out f0'.out
  have q1' := Lib.hid q1
  have b1' := Lib.hid b1
  have f1' := Lib.hid f1
  clear q1 b1 f1 t1 q0' b0' f0' p1'
  go_wp2_with fail
  refine (p2'.out g F1 w2 q1'.out).mono ?_
  rintro e w3 ⟨rfl, F2, q2, t2⟩
  obtain ⟨b2, f2⟩ := t2.allw b1'.out f1'.out
  have q2' := Lib.hid q2
  have b2' := Lib.hid b2
  have f2' := Lib.hid f2
  clear q2 b2 f2 t2 q1' b1' f1' p2'
  go_wp2_with fail
  refine (hn.out w3).mono ?_
  rintro e w4 ⟨rfl, b3⟩
  have q3' := Lib.hid (q2'.out.below b3)
  have b3' := Lib.hid (b2'.out.trans (b3.mono b2'.out.size))
  clear b3 q2' b2' hn
  go_wp2_with fail
  refine (p3'.out g F2 w4 q3'.out).mono ?_
  rintro e w5 ⟨rfl, F3, q4, t4⟩
  obtain ⟨b4, f4⟩ := t4.allw b3'.out f2'.out
  have q4' := Lib.hid q4
  have b4' := Lib.hid b4
  clear q4 b4 f4 t4 q3' b3' f2' p3'
  go_wp2_with fail
  refine (p4'.out g F3 w5 q4'.out).mono ?_
  rintro e w6 h6
  have h6' := Lib.hid h6
  obtain ⟨v, rfl, -, -⟩ := h6
  go_wp2
  go_ret
  obtain ⟨v', e1, o1, bb⟩ := h6'.out
  exact ⟨v', e1, own_from o1 (fun q hq => Nat.le_trans b4'.out.size ((o1.lt q hq).1)), b4'.out.trans (bb.mono b4'.out.size)⟩
end Go.Proofs.Ytbpaoiajfjkmfaa
namespace Go.Proofs.Ytbpaoiajfjkmfaa
set_option linter.unusedVariables false
def fstep (s c : Int) : Int := (((s.toNat ^^^ c.toNat) * 1099511628211 % 18446744073709551616 : Nat) : Int)
def fsum (s : Int) (l : List Int) : Int := l.foldl fstep s
def InU (s : Int) : Prop := 0 ≤ s ∧ s ≤ 18446744073709551615
theorem fstep_in (s c : Int) : InU (fstep s c) := by
  unfold InU fstep
  have := Nat.mod_lt ((s.toNat ^^^ c.toNat) * 1099511628211) (show 0 < 18446744073709551616 by decide)
  omega
theorem xor_lt64 {a b : Nat} (ha : a < 18446744073709551616) (hb : b < 18446744073709551616) : a ^^^ b < 18446744073709551616 :=
  Nat.xor_lt_two_pow (n := 64) ha hb
theorem undo_mul (x : Nat) (hx : x < 18446744073709551616) : (x * 1099511628211 % 18446744073709551616) * 14886173955864302971 % 18446744073709551616 = x := by
  rw [Nat.mod_mul_mod, Nat.mul_assoc, show 1099511628211 * 14886173955864302971 = 18446744073709551616 * 887285111055 + 1 from by decide]
  rw [Nat.mul_add, Nat.mul_one, Nat.mul_left_comm, Nat.mul_add_mod]
  exact Nat.mod_eq_of_lt hx
theorem fsum_in {s : Int} (hs : InU s) (l : List Int) : InU (fsum s l) := by
  unfold fsum
  induction l generalizing s with
  | nil => exact hs
  | cons c l ih => exact ih (fstep_in s c)
theorem fsum_snoc (s : Int) (l : List Int) (c : Int) : fsum s (l ++ [c]) = fstep (fsum s l) c := by simp [fsum]
theorem fstep_inj {t x y : Int} (ht : InU t) (hx : InU x) (hy : InU y) (h : fstep t x = fstep t y) : x = y := by
  unfold InU at *
  unfold fstep at h
  have h1 : (t.toNat ^^^ x.toNat) * 1099511628211 % 18446744073709551616 = (t.toNat ^^^ y.toNat) * 1099511628211 % 18446744073709551616 := Int.ofNat.inj h
  have h2 := undo_mul (t.toNat ^^^ x.toNat) (xor_lt64 (by omega) (by omega))
  rw [h1, undo_mul (t.toNat ^^^ y.toNat) (xor_lt64 (by omega) (by omega))] at h2
  have h3 := congrArg (fun z => t.toNat ^^^ z) h2
  simp only [← Nat.xor_assoc, Nat.xor_self, Nat.zero_xor] at h3
  omega
end Go.Proofs.Ytbpaoiajfjkmfaa
namespace Go.Proofs.Ytbpaoiajfjkmfaa
open Go.RowKit
set_option linter.unusedVariables false
theorem fstep_walk {s c : Int} (hs : InU s) (hc : 0 ≤ c ∧ c ≤ 255) : IntKind.u64.wrap (bits .xor .u64 s c * 1099511628211) = fstep s c := by
  unfold InU at hs
  obtain ⟨a, rfl⟩ := Int.eq_ofNat_of_zero_le hs.1
  obtain ⟨b, rfl⟩ := Int.eq_ofNat_of_zero_le hc.1
  rw [bits_xor_u64_nat a b (by omega) (by omega), u64_wrap]
  unfold fstep
  rw [Int.toNat_natCast, Int.toNat_natCast, Int.natCast_emod, Int.natCast_mul]
  rfl
theorem getD_take_snoc {l : List Int} {k : Nat} (hk : k < l.length) : l.take (k + 1) = l.take k ++ [l.getD k 0] := by
  rw [List.take_succ_eq_append_getElem hk]; simp [List.getD, hk]
set_option maxHeartbeats 400000 in
theorem more_any (s : Int) (hs : InU s) (a : Option Addr) (l : List Int) (n cap : Nat) (hn : n = l.length) (B : Nat) (w : World) (hl : l.length ≤ maxLen) (hb : Bs l) (hc : Sees .u8 B w a l) :
    Calls Try.prog 33 #[.int .u64 s, .slice a n cap] w fun e w' => e = .returned (.int .u64 (fsum s l)) ∧ w = w' := by
  subst hn
  unfold maxLen at hl
  rcases hc with rfl | ⟨b, off, rfl, hB, hc⟩
  · go_enter Try.func33, Try.ntmps33
    go_wp2
    refine wp_loop_rounds 1 ?_
    rw [rounds_succ]
    go_wp2
    go_ret
    exact ⟨rfl, rfl⟩
  · go_enter Try.func33, Try.ntmps33
    go_wp2
    go_loop [0, 9] (fun x y => ∃ (k : Nat) (t : Int), k ≤ l.length ∧ Hid (t = fsum s (l.take k)) ∧ InU t ∧ x = .int .u64 t ∧ y = .int .i64 k) (fun _ y => l.length - (intOf y).toNat)
    case atStart => exact ⟨0, s, by omega, Lib.hid rfl, hs, rfl, rfl⟩
    case round =>
      obtain ⟨k, t, hk, ht, htu, rfl, rfl⟩ := hrel
      by_cases hlt : k < l.length
      · have hcell := hc k hlt
        have hr := hb.at hlt
        have hd := getD_take_snoc hlt
        generalize l.getD k 0 = c at *
        clear hc
        have e1 := fstep_walk htu hr
        have hfin : Hid (fstep t c = fsum s (l.take (k + 1))) := Lib.hid (by rw [hd, fsum_snoc, ← ht.out])
        clear hd
        go_wp2
        go_round
        case rel => exact ⟨k + 1, fstep t c, by omega, hfin, fstep_in _ _, rfl, by go_num⟩
        case measure => simp [intOf]; omega
      · have hfin : Hid (t = fsum s l) := Lib.hid (by rw [ht.out, List.take_of_length_le (by omega)])
        go_wp2
        go_ret
        exact ⟨by rw [← hfin.out]; rfl, rfl⟩
def fstart : Int := 14695981039346656037
theorem fstart_in : InU fstart := by unfold InU fstart; omega
theorem sum_any (a : Option Addr) (l : List Int) (n cap : Nat) (hn : n = l.length) (B : Nat) (w : World) (hl : l.length ≤ maxLen) (hb : Bs l) (hc : Sees .u8 B w a l) :
    Calls Try.prog 34 #[.slice a n cap] w fun e w' => e = .returned (.int .u64 (fsum fstart l)) ∧ w = w' := by
  subst hn
  have hm := Lib.hid (more_any fstart fstart_in a l l.length cap rfl B w hl hb hc)
  go_enter Try.func34, Try.ntmps34
  go_wp2_with (go_at_call 33; refine hm.out.mono ?_; rintro e w' ⟨rfl, rfl⟩)
  go_ret
  exact ⟨rfl, rfl⟩
end Go.Proofs.Ytbpaoiajfjkmfaa
namespace Go.Proofs.Ytbpaoiajfjkmfaa
open Go.RowKit Go.ChangeShapes Go.WideShapes Go.Deep
set_option linter.unusedVariables false
def Reach {H : Type} (P : Program) (t : TypeId) (d : DataW H) : Prop := ∀ n ∈ d.weights P t, n ≤ 140737488351232
theorem reach_each {H : Type} {P : Program} {ts : List TypeId} {ds : List (DataW H)} (h : (DataW.weightsEach P ts ds).all (· ≤ reachBytes) = true) {j : Nat} {t : TypeId} {d : DataW H} (ht : ts[j]? = some t) (hd : ds[j]? = some d) : Reach P t d := by
  intro n hn
  have := List.all_eq_true.1 h n (DataW.weights_mem_each ht hd n hn)
  have h' : n ≤ reachBytes := of_decide_eq_true this
  simpa [reachBytes] using h'
theorem weightsAll_mem {H : Type} {P : Program} {e : TypeId} : ∀ {l : List (DataW H)} {d : DataW H}, d ∈ l → ∀ n ∈ d.weights P e, n ∈ DataW.weightsAll P e l
  | x :: r, d, hd, n, hn => by
    unfold DataW.weightsAll
    rcases List.mem_cons.1 hd with rfl | hd
    · exact List.mem_append_left _ hn
    · exact List.mem_append_right _ (weightsAll_mem hd n hn)
theorem weights_slice {H : Type} {P : Program} {t e : TypeId} {el sp : List (DataW H)} (ht : P.underlying t = some (.slice e)) (h : Reach P t (.slice el sp)) : (el.length + sp.length) * P.bytesOf e ≤ 140737488351232 ∧ ∀ d ∈ el, Reach P e d := by
  unfold Reach at h
  unfold DataW.weights at h
  rw [ht] at h
  refine ⟨h _ (by simp), fun d hd n hn => h n ?_⟩
  exact List.mem_cons_of_mem _ (List.mem_append_left _ (weightsAll_mem hd n hn))
theorem weights_agg {H : Type} {P : Program} {t : TypeId} {fs : Array Field} {ps : List (DataW H)} (ht : P.underlying t = some (.struct fs)) (h : Reach P t (.agg ps)) {j : Nat} {f : Field} {d : DataW H} (hj : fs[j]? = some f) (hd : ps[j]? = some d) : Reach P f.type d := by
  intro n hn
  unfold Reach at h
  unfold DataW.weights at h
  rw [ht] at h
  have h1 : (fs.toList.map (·.type))[j]? = some f.type := by simp [hj]
  exact h n (DataW.weights_mem_each h1 hd n hn)
theorem reach_string {H : Type} {P : Program} {t : TypeId} {s : ByteArray} (h : Reach (H := H) P t (.lit (.string s.data.toList))) : s.size ≤ 140737488351232 := by
  have := h s.data.toList.length (by simp [DataW.weights])
  simpa using this
end Go.Proofs.Ytbpaoiajfjkmfaa
namespace Go.Proofs.Ytbpaoiajfjkmfaa
open Go.RowKit
set_option linter.unusedVariables false
def SeesC (B : Nat) (w : World) (a : Option Addr) (cs : List Value) : Prop :=
  cs = [] ∨ ∃ b off, a = some ⟨b, off, none⟩ ∧ b < B ∧ ∀ i u, cs[i]? = some u → w.cell? ⟨b, off + i, none⟩ = some u
theorem SeesC.below {B : Nat} {w w' : World} {a : Option Addr} {cs : List Value} (h : SeesC B w a cs) (hb : Below B w w') : SeesC B w' a cs := by
  rcases h with h | ⟨b, off, rfl, hB, hc⟩
  · exact .inl h
  · exact .inr ⟨b, off, rfl, hB, fun i u hu => (hb.cell (p := ⟨b, off + i, none⟩) hB).trans (hc i u hu)⟩
theorem SeesC.mono {B B' : Nat} {w : World} {a : Option Addr} {cs : List Value} (h : SeesC B w a cs) (hb : B ≤ B') : SeesC B' w a cs := by
  rcases h with h | ⟨b, off, rfl, hB, hc⟩
  · exact .inl h
  · exact .inr ⟨b, off, rfl, by omega, hc⟩
theorem add_at (b off i : Nat) : (⟨b, off, none⟩ : Addr).add i = ⟨b, off + i, none⟩ := by unfold Addr.add; split <;> simp_all
theorem seesC_own {w : World} {base : Nat} {e : TypeId} {size : Nat} {v : Value} {n : Nat} {cs : List Value} (h : w.ownsRow base e size v n cs) :
    ∃ a cap, v = .slice a n cap ∧ n ≤ cap ∧ cap ≤ maxLen ∧ SeesC w.heap.size w a cs := by
  rcases h.2 with ⟨rfl, h0⟩ | ⟨g, cap, cur, rfl, _, hg, hc1, hc2, _⟩
  · subst h0
    have : cs = [] := List.eq_nil_of_length_eq_zero (by have := h.1; omega)
    exact ⟨none, 0, rfl, Nat.le_refl _, by simp, .inl this⟩
  · refine ⟨_, cap, rfl, hc1, hc2, .inr ⟨g, 0, rfl, (Array.getElem?_eq_some_iff.1 hg).1, fun i u hu => ?_⟩⟩
    have := h.cells (g := g) rfl i u hu
    rw [add_at] at this
    exact this
theorem seesC_lit (w : World) (e : TypeId) (cs : Array Value) (fr : Nat × Nat := (0, 0)) : SeesC (w.alloc (.cells cs e fr)).heap.size (w.alloc (.cells cs e fr)) (some ⟨w.heap.size, 0, none⟩) cs.toList := by
  refine .inr ⟨w.heap.size, 0, rfl, by simp, fun i u hu => ?_⟩
  rw [cell_of_row _ _ _ _ _ _ (heap_alloc_new w _)]
  simpa using hu
theorem flat_at {α : Type} {f : α → List Value} {k : Nat} (hk : ∀ x, (f x).length = k) : ∀ (l : List α) (i j : Nat), j < k → (l.flatMap f)[i * k + j]? = (l[i]?).bind fun x => (f x)[j]?
  | [], i, j, _ => by simp
  | x :: l, 0, j, hj => by simp [List.getElem?_append, hk, hj]
  | x :: l, i + 1, j, hj => by
    have ih := flat_at hk l i j hj
    rw [List.flatMap_cons, List.getElem?_append_right (by rw [hk, Nat.succ_mul]; omega), hk, show (i + 1) * k + j - k = i * k + j by rw [Nat.succ_mul]; omega, ih]
    simp
theorem flat_len {α : Type} {f : α → List Value} {k : Nat} (hk : ∀ x, (f x).length = k) : ∀ (l : List α), (l.flatMap f).length = l.length * k
  | [] => by simp
  | x :: l => by rw [List.flatMap_cons, List.length_append, flat_len hk l, hk, List.length_cons, Nat.succ_mul]; omega
theorem run_append_cellsB {P : Program} (w : World) (base : Nat) (t ty e : TypeId) (i : TypeInfo) (z : Value) (size bytes : Nat) (ht : P.underlying t = some (.slice e)) (hi : P.info? e = some i) (hz : i.zero = some z)
    (hsize : i.size = size) (hby : i.bytes = bytes) (hzs : z.cells.size = size) (hsz : 0 < size)
    (v : Value) (n : Nat) (xs : List Value) (hown : w.ownsRow base e size v n xs) (B : Nat) (A : Option Addr) (m c : Nat) (news : List Value) (hl : news.length = m * size) (hs : SeesC B w A news) (h1 : ∀ u ∈ news, u.oneCell' = true)
    (hn : n + m ≤ maxLen) (hby2 : (n + m) * bytes ≤ 140737488355328) (hbase : base ≤ w.heap.size) :
    ∃ v' w', (Builtin.append_ #[t, t] ty #[v, .slice A m c]).run P w = .ok v' w' ∧ w'.ownsRow base e size v' (n + m) (xs ++ news) ∧ w.grownBy w' v.ownBlock ∧ (v'.ownBlock = v.ownBlock ∨ v'.ownBlock = some w.heap.size) := by
  cases A with
  | none =>
    have hnews : news = [] := by
      rcases hs with h | ⟨b, off, h, _⟩
      · exact h
      · cases h
    subst hnews
    have hm : m = 0 := by
      cases m with
      | zero => rfl
      | succ m => rw [Nat.succ_mul] at hl; simp at hl; omega
    subst hm
    exact ⟨v, w, run_append_none w base t ty e i size ht hi v n xs hown c, by simpa using hown, World.grownBy.refl w _, .inl rfl⟩
  | some ad =>
    have hc : ∀ j u, news[j]? = some u → w.cell? (ad.add j) = some u := by
      rcases hs with rfl | ⟨b, off, h, _, hc⟩
      · intro j u hj; simp at hj
      · injection h with h; subst h; intro j u hj; rw [add_at]; exact hc j u hj
    obtain ⟨v', w', hrun, h2, h3, _, h5⟩ := run_append_own_at (P := P) w base t ty e i z size bytes ht hi hz hsize hby hzs hsz v n xs hown ad m c news hl hc h1 hn hby2 hbase
    exact ⟨v', w', hrun, h2, h3, h5⟩
theorem wpList_append_cellsB {P : Program} (w : World) {ops : Array Oper} {rest : List Oper} {o : Oper} {a : Act} {Q : Exit → Act → World → Prop}
    (hg : o.guard = none) (s x : Operand) (t : TypeId) (hop : o.op = Op.call { callee := Callee.builtin Builtin.append, args := #[s, x], argTypes := #[t, t] })
    (w0 : World) (e : TypeId) (i : TypeInfo) (z : Value) (size bytes : Nat) (ht : P.underlying t = some (.slice e)) (hi : P.info? e = some i) (hz : i.zero = some z)
    (hsize : i.size = size) (hby : i.bytes = bytes) (hzs : z.cells.size = size) (hsz : 0 < size)
    (v : Value) (n : Nat) (xs : List Value) (hown : w.ownsRow w0.heap.size e size v n xs) (hb : Below w0.heap.size w0 w) (B : Nat) (A : Option Addr) (m c : Nat) (news : List Value) (hl : news.length = m * size) (hs : SeesC B w A news) (h1 : ∀ u ∈ news, u.oneCell' = true)
    (hsv : a.eval s = v) (hx : a.eval x = .slice A m c) (hn : n + m ≤ maxLen) (hby2 : (n + m) * bytes ≤ 140737488355328)
    (hK : ∀ v' w', w'.ownsRow w0.heap.size e size v' (n + m) (xs ++ news) → Below w0.heap.size w0 w' → wpList P ops Q rest (a.put o.dst v') w') :
    wpList P ops Q (o :: rest) a w := by
  obtain ⟨v', w', hrun, g1, g2, g3⟩ := run_append_cellsB (P := P) w w0.heap.size t o.type e i z size bytes ht hi hz hsize hby hzs hsz v n xs hown B A m c news hl hs h1 hn hby2 hb.size
  refine wpList_plain hg fun K hK' => ?_
  unfold Oper.wp
  simp [execOp, hop, resolve, invoke, builtin, hsv, hx, hrun, Result.andThen]
  exact hK' _ _ (hK v' w' g1 (hb.grown g2 hb.size fun k hk => (hown.lt k hk).1))
theorem own_cells (w : World) (e : TypeId) (size n : Nat) (cs : Array Value) (hn : cs.size = n * size) (hm : n ≤ maxLen) : (w.alloc (.cells cs e)).ownsRow w.heap.size e size (.slice (some ⟨w.heap.size, 0, none⟩) n n) n cs.toList :=
  ⟨by simpa using hn, .inr ⟨w.heap.size, n, cs, rfl, Nat.le_refl _, heap_alloc_new w _, Nat.le_refl _, hm, hn, by rw [List.take_of_length_le (by simp; omega)]⟩⟩
end Go.Proofs.Ytbpaoiajfjkmfaa
namespace Go.Proofs.Ytbpaoiajfjkmfaa
open Go.RowKit
set_option linter.unusedVariables false
structure RO {α : Type} (f : α → List Value) (w : World) (a : Option Addr) (n c : Nat) (l : List α) : Prop where
  len : n = l.length
  cap : n ≤ c
  max : c ≤ maxLen
  sees : SeesC w.heap.size w a (l.flatMap f)
theorem RO.below {α : Type} {f : α → List Value} {w w' : World} {a : Option Addr} {n c : Nat} {l : List α} (h : RO f w a n c l) (hb : Below w.heap.size w w') : RO f w' a n c l := ⟨h.len, h.cap, h.max, (h.sees.below hb).mono hb.size⟩
theorem RO.drewN {α : Type} {f : α → List Value} {w : World} {a : Option Addr} {n c : Nat} {l : List α} (h : RO f w a n c l) (m : Nat) : RO f (w.drewN m) a n c l := ⟨h.len, h.cap, h.max, h.sees⟩
theorem RO.nil {α : Type} {f : α → List Value} (w : World) : RO f w none 0 0 [] := ⟨rfl, Nat.le_refl _, by simp, .inl rfl⟩
theorem RO.max' {α : Type} {f : α → List Value} {w : World} {a : Option Addr} {n c : Nat} {l : List α} (h : RO f w a n c l) : n ≤ 9223372036854775807 := by
  have h1 := h.cap
  have h2 := h.max
  unfold maxLen at h2
  omega
theorem RO.at_ {α : Type} {f : α → List Value} {k : Nat} (hk : ∀ x, (f x).length = k) (h0 : 0 < k) {w : World} {a : Option Addr} {n c : Nat} {l : List α} (h : RO f w a n c l) (d : α) {i : Nat} (hi : i < n) :
    ∃ b off, a = some ⟨b, off, none⟩ ∧ b < w.heap.size ∧ ∀ j, j < k → w.cell? ⟨b, off + (i * k + j), none⟩ = (f (l.getD i d))[j]? := by
  have hl : i < l.length := by rw [← h.len]; exact hi
  rcases h.sees with e | ⟨b, off, rfl, hB, hc⟩
  · have h1 := congrArg List.length e
    rw [flat_len hk] at h1
    have h2 : 0 < l.length * k := Nat.mul_pos (by omega) h0
    simp at h1
    have : l.length * k = 0 := by simp [h1]
    omega
  · refine ⟨b, off, rfl, hB, fun j hj => ?_⟩
    have h1 : (l.flatMap f)[i * k + j]? = (f (l.getD i d))[j]? := by
      rw [flat_at hk l i j hj]
      simp [List.getD, hl]
    have h2 : j < (f (l.getD i d)).length := by rw [hk]; exact hj
    rw [List.getElem?_eq_getElem h2] at h1 ⊢
    exact hc _ _ h1
end Go.Proofs.Ytbpaoiajfjkmfaa
namespace Go.Proofs.Ytbpaoiajfjkmfaa
open Go.RowKit Go.ChangeShapes Go.WideShapes Go.Deep
set_option linter.unusedVariables false
def flatT (P : Program) : Nat → TypeId → List TypeId
  | 0, t => [t]
  | n + 1, t => match P.underlying t with
    | some (.struct fs) => fs.toList.flatMap fun f => flatT P n f.type
    | _ => [t]
def flatOK (P : Program) : Nat → TypeId → Bool
  | 0, t => true
  | n + 1, t => match P.underlying t with
    | some (.struct fs) => (List.range fs.size).all fun i => match fs[i]? with
      | some f => flatOK P n f.type && ((f.offset == ((fs.toList.take i).flatMap fun f => flatT P n f.type).length) && (P.cellsOf f.type == (flatT P n f.type).length))
      | none => true
    | _ => true
theorem flat_find {α β : Type} (g : α → List β) : ∀ (L : List α) (j : Nat) (y : β), (L.flatMap g)[j]? = some y → ∃ i x j', L[i]? = some x ∧ (g x)[j']? = some y ∧ j = ((L.take i).flatMap g).length + j'
  | [], j, y, h => by simp at h
  | x :: L, j, y, h => by
    rw [List.flatMap_cons] at h
    rcases Nat.lt_or_ge j (g x).length with hj | hj
    · rw [List.getElem?_append_left hj] at h
      exact ⟨0, x, j, rfl, h, by simp⟩
    · rw [List.getElem?_append_right hj] at h
      obtain ⟨i, x', j', h1, h2, h3⟩ := flat_find g L _ y h
      refine ⟨i + 1, x', j', by simpa using h1, h2, ?_⟩
      rw [List.take_succ_cons, List.flatMap_cons, List.length_append]
      omega
theorem flat_upto {α β : Type} (g : α → List β) (L : List α) {i : Nat} {x : α} (h : L[i]? = some x) : ((L.take i).flatMap g).length + (g x).length ≤ (L.flatMap g).length := by
  have e : L = L.take i ++ x :: L.drop (i + 1) := by
    have hl : i < L.length := (List.getElem?_eq_some_iff.1 h).1
    have hx : L[i] = x := (List.getElem?_eq_some_iff.1 h).2
    rw [← hx, ← List.drop_eq_getElem_cons hl, List.take_append_drop]
  conv => rhs; rw [e]
  rw [List.flatMap_append, List.flatMap_cons, List.length_append, List.length_append]
  omega
theorem flat_read {H : Type} {enc : TypeId × Value → H} {P : Program} {w : World} : ∀ (n : Nat) (t : TypeId) (fuel : Nat) (cs : List Value) (x : DataW H × List MemPlace), flatOK P n t = true → cs.length = (flatT P n t).length →
    DataW.trod enc P w 0 (fun _ => true) true fuel t cs = some x → Reach P t x.1 →
    ∀ (j : Nat) (u : TypeId), (flatT P n t)[j]? = some u → ∃ (v : Value) (y : DataW H × List MemPlace) (m : Nat), cs[j]? = some v ∧ DataW.trod enc P w 0 (fun _ => true) true m u [v] = some y ∧ Reach P u y.1
  | 0, t, fuel, cs, x, _, hl, h, hR, j, u, hu => by
    unfold flatT at hl hu
    match cs, hl with
    | [v], _ =>
      have hj : j = 0 := by have := (List.getElem?_eq_some_iff.1 hu).1; simp at this; omega
      subst hj
      obtain rfl : t = u := by simpa using hu
      exact ⟨v, x, fuel, rfl, h, hR⟩
  | n + 1, t, fuel, cs, x, hok, hl, h, hR, j, u, hu => by
    cases hs : P.underlying t with
    | none =>
      unfold flatT at hl hu
      rw [hs] at hl hu
      match cs, hl with
      | [v], _ =>
        have hj : j = 0 := by have := (List.getElem?_eq_some_iff.1 hu).1; simp at this; omega
        subst hj
        obtain rfl : t = u := by simpa using hu
        exact ⟨v, x, fuel, rfl, h, hR⟩
    | some d =>
      by_cases hd : ∃ fs, d = .struct fs
      · obtain ⟨fs, rfl⟩ := hd
        unfold flatT at hl hu
        unfold flatOK at hok
        rw [hs] at hl hu hok
        simp only at hl hu hok
        obtain ⟨i, f, j', h1, h2, h3⟩ := flat_find _ _ _ _ hu
        have h1' : fs[i]? = some f := by simpa using h1
        have hil : i < fs.size := (Array.getElem?_eq_some_iff.1 h1').1
        have hf := List.all_eq_true.1 hok i (List.mem_range.2 hil)
        rw [h1'] at hf
        simp only [Bool.and_eq_true, beq_iff_eq] at hf
        obtain ⟨hf1, hf2, hf3⟩ := hf
        obtain ⟨ys, m, _, hys, _, hyl, hrd⟩ := DataW.trod_struct hs h
        have hri := hrd i f h1'
        have hup := flat_upto (fun f : Field => flatT P n f.type) fs.toList h1
        have hyi : i < ys.length := by rw [hyl]; exact hil
        rw [List.getElem?_eq_getElem hyi, hf3] at hri
        have hx : x.1 = .agg (ys.map (·.1)) := by rw [hys]
        rw [hx] at hR
        have hRi := weights_agg hs hR h1' (d := ys[i].1) (by simp [List.getElem?_eq_getElem hyi])
        have hlen : ((cs.drop f.offset).take (flatT P n f.type).length).length = (flatT P n f.type).length := by
          rw [List.length_take, List.length_drop, hl, hf2]
          have := hup
          omega
        obtain ⟨v, y, m', g1, g2, g3⟩ := flat_read n f.type m _ ys[i] hf1 hlen hri hRi j' u h2
        refine ⟨v, y, m', ?_, g2, g3⟩
        have hj' : j' < (flatT P n f.type).length := (List.getElem?_eq_some_iff.1 h2).1
        rw [List.getElem?_take, if_pos hj', List.getElem?_drop] at g1
        rw [h3, ← hf2]
        exact g1
      · unfold flatT at hl hu
        rw [hs] at hl hu
        have e1 : (match some d with | some (.struct fs) => fs.toList.flatMap fun f => flatT P n f.type | _ => [t]) = [t] := by
          split
          · rename_i fs he
            injection he with he
            exact absurd ⟨_, he⟩ hd
          · rfl
        rw [e1] at hl hu
        match cs, hl with
        | [v], _ =>
          have hj : j = 0 := by have := (List.getElem?_eq_some_iff.1 hu).1; simp at this; omega
          subst hj
          obtain rfl : t = u := by simpa using hu
          exact ⟨v, x, fuel, rfl, h, hR⟩
theorem flat_row {H : Type} {enc : TypeId × Value → H} {P : Program} {w : World} {fuel : Nat} {t e : TypeId} {r : Option Addr} {len cap : Nat} {x : DataW H × List MemPlace} (n : Nat) (ts : List TypeId)
    (ht : P.underlying t = some (.slice e)) (hok : flatOK P n e = true) (hts : flatT P n e = ts) (hC : P.cellsOf e = ts.length) (h0 : 0 < ts.length)
    (h : DataW.trod enc P w 0 (fun _ => true) true fuel t [.slice r len cap] = some x) (hR : Reach P t x.1) :
    len ≤ cap ∧ cap ≤ maxLen ∧ (len = 0 ∨ len * P.bytesOf e ≤ 140737488351232 ∧ ∃ b off, r = some ⟨b, off, none⟩ ∧ b < w.heap.size ∧
      ∀ i, i < len → ∀ (j : Nat) (u : TypeId), ts[j]? = some u → ∃ (v : Value) (y : DataW H × List MemPlace) (m : Nat), w.cell? ⟨b, off + (i * ts.length + j), none⟩ = some v ∧ DataW.trod enc P w 0 (fun _ => true) true m u [v] = some y ∧ Reach P u y.1) := by
  subst hts
  rcases open_slice ht h with ⟨hcs, _⟩ | ⟨a, l, c, m, k, D, Pl, hcs, hb, hl, hm, hmm, hx, hi⟩
  · simp at hcs
    obtain ⟨rfl, rfl, rfl⟩ := hcs
    exact ⟨Nat.le_refl _, by simp, .inl rfl⟩
  · simp at hcs
    obtain ⟨rfl, rfl, rfl⟩ := hcs
    refine ⟨hl, hm, ?_⟩
    by_cases hz : len = 0
    · exact .inl hz
    right
    rw [hx] at hR
    obtain ⟨hw1, hw2⟩ := weights_slice ht hR
    simp only [List.length_map, List.length_range] at hw1
    have key : ∀ i, i < len → ∀ (j : Nat) (u : TypeId), (flatT P n e)[j]? = some u → ∃ (v : Value) (y : DataW H × List MemPlace) (m : Nat), w.cell? (a.add (i * (flatT P n e).length + j)) = some v ∧ DataW.trod enc P w 0 (fun _ => true) true m u [v] = some y ∧ Reach P u y.1 := by
      intro i hil j u hj
      obtain ⟨cs', hc, ht'⟩ := hi i (by rw [hmm]; simp; omega)
      rw [hC] at hc
      obtain ⟨_, hcl, hat⟩ := World.cells?_some hc
      have hRi := hw2 (D i) (List.mem_map.2 ⟨i, by simpa using hil, rfl⟩)
      obtain ⟨v, y, m', g1, g2, g3⟩ := flat_read n e k cs' (D i, Pl i) hok hcl ht' hRi j u hj
      have hjl : j < (flatT P n e).length := (List.getElem?_eq_some_iff.1 hj).1
      have hcell := hat j hjl
      refine ⟨v, y, m', by rw [← Go.Deep.add_add, hcell, g1], g2, g3⟩
    refine ⟨Nat.le_trans (Nat.mul_le_mul_right _ (Nat.le_add_right _ _)) hw1, ?_⟩
    obtain ⟨b, off, spot⟩ := a
    obtain ⟨v0, _, _, hv0, _⟩ := key 0 (by omega) 0 _ (List.getElem?_eq_getElem h0)
    simp only [Nat.zero_mul, Nat.add_zero] at hv0
    have hspot : spot = none := by
      have : ((⟨b, off, spot⟩ : Addr).add 0).spot = none := World.cell?_spot hv0
      simpa [Addr.add] using this
    subst hspot
    refine ⟨b, off, rfl, ?_, fun i hil j u hj => ?_⟩
    · rw [add_at] at hv0
      exact World.block_lt_of_cell? w _ hv0
    · obtain ⟨v, y, m', h1, h2⟩ := key i hil j u hj
      rw [add_at] at h1
      exact ⟨v, y, m', h1, h2⟩
theorem row_of {α : Type} (f : α → List Value) (k : Nat) (hk : ∀ x, (f x).length = k) (h0 : 0 < k) (good : α → Prop) (d : α) {w : World} {r : Option Addr} {len cap : Nat} (hl : len ≤ cap) (hm : cap ≤ maxLen)
    (h : len = 0 ∨ ∃ b off, r = some ⟨b, off, none⟩ ∧ b < w.heap.size ∧ ∀ i, i < len → ∃ s, good s ∧ ∀ j, j < k → w.cell? ⟨b, off + (i * k + j), none⟩ = (f s)[j]?) :
    ∃ l : List α, RO f w r len cap l ∧ ∀ s ∈ l, good s := by
  rcases h with rfl | ⟨b, off, rfl, hB, h⟩
  · exact ⟨[], ⟨rfl, hl, hm, .inl rfl⟩, by simp⟩
  · have key : ∀ i, ∃ s : α, i < len → good s ∧ ∀ j, j < k → w.cell? ⟨b, off + (i * k + j), none⟩ = (f s)[j]? := by
      intro i
      by_cases hi : i < len
      · obtain ⟨s, hs⟩ := h i hi; exact ⟨s, fun _ => hs⟩
      · exact ⟨d, fun h => absurd h hi⟩
    let T : Nat → α := fun i => Classical.choose (key i)
    have hT : ∀ i, i < len → good (T i) ∧ ∀ j, j < k → w.cell? ⟨b, off + (i * k + j), none⟩ = (f (T i))[j]? := fun i hi => Classical.choose_spec (key i) hi
    refine ⟨(List.range len).map T, ⟨by simp, hl, hm, .inr ⟨b, off, rfl, hB, fun p u hu => ?_⟩⟩, fun s hs => ?_⟩
    · have hp : p < len * k := by
        have := (List.getElem?_eq_some_iff.1 hu).1
        rw [flat_len hk] at this
        simpa using this
      have hd : p / k < len := Nat.div_lt_of_lt_mul (by rw [Nat.mul_comm]; exact hp)
      have hr : p % k < k := Nat.mod_lt _ h0
      have he : p = p / k * k + p % k := by rw [Nat.mul_comm]; exact (Nat.div_add_mod p k).symm
      rw [he, flat_at hk _ _ _ hr] at hu
      have h1 : ((List.range len).map T)[p / k]? = some (T (p / k)) := by simp [hd]
      rw [h1] at hu
      rw [he, (hT _ hd).2 _ hr]
      exact hu
    · obtain ⟨i, hi, rfl⟩ := List.mem_map.1 hs
      exact (hT i (by simpa using hi)).1
end Go.Proofs.Ytbpaoiajfjkmfaa
namespace Go.Proofs.Ytbpaoiajfjkmfaa
open Go.RowKit Go.ChangeShapes Go.WideShapes Go.Deep
set_option linter.unusedVariables false
set_option linter.unusedSimpArgs false
def alC (a : AlD) : List Value := [.int .i64 a.kind, .int .i64 a.sev, .string a.fn, .string a.file, .int .i64 a.line, .string a.expr]
def al0 : AlD := ⟨0, 0, ByteArray.empty, ByteArray.empty, 0, ByteArray.empty⟩
theorem alC_len (a : AlD) : (alC a).length = 6 := rfl
def alW (a : AlD) : Prop := (Lit.int .i64 a.kind).wf = true ∧ (Lit.int .i64 a.sev).wf = true ∧ a.fn.size ≤ 140737488351232 ∧ a.file.size ≤ 140737488351232 ∧ (Lit.int .i64 a.line).wf = true ∧ a.expr.size ≤ 140737488351232
def AlSl (w : World) (a : Option Addr) (n c : Nat) : Prop := ∃ l, RO alC w a n c l ∧ (∀ s ∈ l, alW s) ∧ n ≤ 1954687338211
theorem al_bytes : Try.prog.bytesOf 24 = 72 := by kernel_rfl
theorem al_row {H : Type} {enc : TypeId × Value → H} {w : World} {fuel : Nat} {r : Option Addr} {len cap : Nat} {x : DataW H × List MemPlace}
    (h : DataW.trod enc Try.prog w 0 (fun _ => true) true fuel 22 [.slice r len cap] = some x) (hR : Reach Try.prog 22 x.1) : AlSl w r len cap := by
  obtain ⟨h1, h2, h3⟩ := flat_row 2 [3, 3, 9, 9, 3, 9] Try.underlying22 (by kernel_rfl) (by kernel_rfl) (by kernel_rfl) (by decide) h hR
  have hn : len ≤ 1954687338211 := by
    rcases h3 with rfl | ⟨hb, _⟩
    · omega
    · rw [al_bytes] at hb; omega
  obtain ⟨l, g1, g2⟩ := row_of (w := w) (r := r) (len := len) (cap := cap) alC 6 alC_len (by decide) alW al0 h1 h2 (by
    rcases h3 with rfl | ⟨_, b, off, rfl, hB, hc⟩
    · exact .inl rfl
    · refine .inr ⟨b, off, rfl, hB, fun i hi => ?_⟩
      obtain ⟨v0, y0, m0, c0, t0, r0⟩ := hc i hi 0 _ rfl
      obtain ⟨v1, y1, m1, c1, t1, r1⟩ := hc i hi 1 _ rfl
      obtain ⟨v2, y2, m2, c2, t2, r2⟩ := hc i hi 2 _ rfl
      obtain ⟨v3, y3, m3, c3, t3, r3⟩ := hc i hi 3 _ rfl
      obtain ⟨v4, y4, m4, c4, t4, r4⟩ := hc i hi 4 _ rfl
      obtain ⟨v5, y5, m5, c5, t5, r5⟩ := hc i hi 5 _ rfl
      obtain ⟨z0, e0', _, w0⟩ := DataW.trod_int Try.underlying3 t0
      obtain ⟨z1, e1, _, w1⟩ := DataW.trod_int Try.underlying3 t1
      obtain ⟨z2, e2, ez2, _⟩ := DataW.trod_string Try.underlying9 t2
      obtain ⟨z3, e3, ez3, _⟩ := DataW.trod_string Try.underlying9 t3
      obtain ⟨z4, e4, _, w4⟩ := DataW.trod_int Try.underlying3 t4
      obtain ⟨z5, e5, ez5, _⟩ := DataW.trod_string Try.underlying9 t5
      simp at e0' e1 e2 e3 e4 e5
      subst e0' e1 e2 e3 e4 e5
      subst ez2 ez3 ez5
      refine ⟨⟨z0, z1, z2, z3, z4, z5⟩, ⟨w0, w1, reach_string r2, reach_string r3, w4, reach_string r5⟩, fun j hj => ?_⟩
      match j, hj with
      | 0, _ => exact c0
      | 1, _ => exact c1
      | 2, _ => exact c2
      | 3, _ => exact c3
      | 4, _ => exact c4
      | 5, _ => exact c5)
  exact ⟨l, g1, g2, hn⟩
theorem al_at {w : World} {a : Option Addr} {n c : Nat} {l : List AlD} (h : RO alC w a n c l) {i : Nat} (hi : i < n) :
    ∃ b off, a = some ⟨b, off, none⟩ ∧ b < w.heap.size ∧ w.cell? ⟨b, off + i * 6, none⟩ = some (.int .i64 (l.getD i al0).kind) ∧ w.cell? ⟨b, off + i * 6 + 1, none⟩ = some (.int .i64 (l.getD i al0).sev) ∧ w.cell? ⟨b, off + i * 6 + 2, none⟩ = some (.string (l.getD i al0).fn) ∧ w.cell? ⟨b, off + i * 6 + 3, none⟩ = some (.string (l.getD i al0).file) ∧ w.cell? ⟨b, off + i * 6 + 4, none⟩ = some (.int .i64 (l.getD i al0).line) ∧ w.cell? ⟨b, off + i * 6 + 5, none⟩ = some (.string (l.getD i al0).expr) := by
  obtain ⟨b, off, h1, h2, h3⟩ := h.at_ alC_len (by decide) al0 hi
  exact ⟨b, off, h1, h2, h3 0 (by decide), h3 1 (by decide), h3 2 (by decide), h3 3 (by decide), h3 4 (by decide), h3 5 (by decide)⟩
def bigOne (a : AlD) : Bool := decide (300 < a.fn.size) || (decide (300 < a.file.size) || decide (300 < a.expr.size))
def bigA (l : List AlD) : Bool := decide (100 < l.length) || l.any bigOne
def smallA (a : AlD) : Prop := a.fn.size ≤ 300 ∧ a.file.size ≤ 400 ∧ a.expr.size ≤ 300
theorem small_of {l : List AlD} (h : bigA l = false) : l.length ≤ 100 ∧ ∀ a ∈ l, a.fn.size ≤ 300 ∧ a.file.size ≤ 300 ∧ a.expr.size ≤ 300 := by
  unfold bigA at h
  simp only [Bool.or_eq_false_iff, decide_eq_false_iff_not, List.any_eq_false] at h
  refine ⟨by omega, fun a ha => ?_⟩
  have := h.2 a ha
  unfold bigOne at this
  simp at this
  exact ⟨by omega, by omega, by omega⟩
end Go.Proofs.Ytbpaoiajfjkmfaa
namespace Go.Proofs.Ytbpaoiajfjkmfaa
set_option linter.unusedVariables false
set_option linter.unusedSimpArgs false
def keyA (a : AlD) : List Int := keyL a.kind a.fn (normS (codes a.expr))
def oneK (k : List Int) (r : Nat) : Int := fsum (fsum fstart k) (leb r)
def oneA (a : AlD) (r : Int) : Int := oneK (keyA a) (max r 0).toNat
def rankA (l : List AlD) (i : Nat) : Nat := rankL cmpA keyA l al0 i
def fingA (l : List AlD) : List Int := fingersL cmpA keyA oneK l al0
theorem fing_len (l : List AlD) : (fingA l).length = l.length := by simp [fingA, fingersL]
theorem fing_at (l : List AlD) {i : Nat} (hi : i < l.length) : (fingA l).getD i 0 = oneK (keyA (l.getD i al0)) (rankA l i) := by
  simp [fingA, fingersL, List.getD, hi, rankA]
theorem rank_le (l : List AlD) (i : Nat) : rankA l i ≤ l.length := by
  unfold rankA rankL
  have := List.countP_le_length (p := fun j => aheadB cmpA l al0 j i && decide (keyA (l.getD j al0) = keyA (l.getD i al0))) (l := List.range l.length)
  simpa using this
theorem normS_bs {L : List Int} (h : Bs L) : Bs (normS L) := norm_bs (parts_bs _ (Nat.le_refl _) h) false
end Go.Proofs.Ytbpaoiajfjkmfaa
namespace Go.Proofs.Ytbpaoiajfjkmfaa
open Go.RowKit
set_option linter.unusedVariables false
set_option linter.unusedSimpArgs false
theorem less_is (x y : ByteArray) : Op.bytesLess x.toList y.toList = lt8 (byt x) (byt y) := by
  unfold lt8 byt
  rw [ByteArray.toList_eq, ByteArray.toList_eq]
end Go.Proofs.Ytbpaoiajfjkmfaa
namespace Go.Proofs.Ytbpaoiajfjkmfaa
open Go.RowKit
set_option linter.unusedVariables false
theorem box_below (w : World) (v1 : Array Value) (t1 : TypeId) : Below w.heap.size w (w.alloc (.cells v1 t1)) := (Below.refl _ _).alloc (Nat.le_refl _) _
theorem box2_below (w : World) (v1 v2 : Array Value) (t1 t2 : TypeId) : Below w.heap.size w ((w.alloc (.cells v1 t1)).alloc (.cells v2 t2)) := ((Below.refl _ _).alloc (Nat.le_refl _) _).alloc (by simp) _
structure SL (w : World) (a : Option Addr) (m c : Nat) (l : List Int) : Prop where
  len : m = l.length
  cap : m ≤ c
  max : m ≤ 9223372036854775807
  sees : Sees .i64 w.heap.size w a l
theorem SL.below {w w' : World} {a : Option Addr} {m c : Nat} {l : List Int} (h : SL w a m c l) (hb : Below w.heap.size w w') : SL w' a m c l := ⟨h.len, h.cap, h.max, (h.sees.below hb).mono hb.size⟩
theorem SL.drewN {w : World} {a : Option Addr} {m c : Nat} {l : List Int} (h : SL w a m c l) (n : Nat) : SL (w.drewN n) a m c l := ⟨h.len, h.cap, h.max, h.sees⟩
theorem SL.nil (w : World) : SL w none 0 0 [] := ⟨rfl, Nat.le_refl _, by omega, .inl rfl⟩
def Tells (v : Value) (w : World) (e : Ending) (w' : World) : Prop := e = .returned v ∧ w = w'
theorem sees_num {k : IntKind} {B : Nat} {w : World} {a : Option Addr} {l : List Int} (h : Sees k B w a l) {i : Nat} (hi : i < l.length) : ∃ b off, a = some ⟨b, off, none⟩ ∧ b < B ∧ w.cell? ⟨b, off + i, none⟩ = some (.int k (l.getD i 0)) := by
  rcases h with rfl | ⟨b, off, rfl, hB, hc⟩
  · cases hi
  · exact ⟨b, off, rfl, hB, hc i hi⟩
end Go.Proofs.Ytbpaoiajfjkmfaa
namespace Go.Proofs.Ytbpaoiajfjkmfaa
open Go.RowKit
set_option linter.unusedVariables false
set_option linter.unusedSimpArgs false
def firstN : List Int → Int
  | [] => 0
  | x :: r => thenC x (firstN r)
theorem firstN_skip : ∀ (l : List Int) (k : Nat), (∀ j, j < k → l.getD j 0 = 0) → k ≤ l.length → firstN l = firstN (l.drop k)
  | l, 0, _, _ => rfl
  | [], k + 1, _, h => by simp at h
  | x :: l, k + 1, h, hk => by
    have h0 := h 0 (by omega)
    simp at h0
    subst h0
    show thenC 0 (firstN l) = _
    unfold thenC
    rw [if_pos rfl]
    exact firstN_skip l k (fun j hj => by have := h (j + 1) (by omega); simpa using this) (by simpa using hk)
theorem firstN_at {l : List Int} {k : Nat} (h : ∀ j, j < k → l.getD j 0 = 0) (hk : k < l.length) (h0 : l.getD k 0 ≠ 0) : firstN l = l.getD k 0 := by
  rw [firstN_skip l k h (by omega), List.drop_eq_getElem_cons hk]
  have e : l.getD k 0 = l[k] := by simp [List.getD, hk]
  rw [e] at h0 ⊢
  show thenC l[k] _ = _
  unfold thenC
  rw [if_neg h0]
theorem firstN_none {l : List Int} (h : ∀ j, j < l.length → l.getD j 0 = 0) : firstN l = 0 := by
  rw [firstN_skip l l.length h (Nat.le_refl _), List.drop_length]
  rfl
def keysA (a b : AlD) : List Int := [cmpT a.file b.file, cmpZ a.line b.line, cmpT a.fn b.fn, cmpZ a.kind b.kind, cmpT a.expr b.expr, cmpZ a.sev b.sev]
theorem cmpA_first (a b : AlD) : cmpA a b = firstN (keysA a b) := by
  unfold cmpA keysA firstN firstN firstN firstN firstN firstN firstN
  have : thenC (cmpZ a.sev b.sev) 0 = cmpZ a.sev b.sev := by unfold thenC; split <;> simp_all
  rw [this]
end Go.Proofs.Ytbpaoiajfjkmfaa
namespace Go.Proofs.Ytbpaoiajfjkmfaa
open Go.RowKit
set_option linter.unusedVariables false
set_option linter.unusedSimpArgs false
theorem snan_any (x : ByteArray) (w : World) : Calls Try.prog 88 #[.string x] w fun e w' => e = .returned (.bool false) ∧ w = w' := by
  have n1 : (x.toList == x.toList) = true := by simp
  go_enter Try.func88, Try.ntmps88
  go_wp2
  go_ret
  exact ⟨rfl, rfl⟩
theorem inan_any (x : Int) (w : World) : Calls Try.prog 55 #[.int .i64 x] w fun e w' => e = .returned (.bool false) ∧ w = w' := by
  go_enter Try.func55, Try.ntmps55
  go_wp2
  go_ret
  exact ⟨rfl, rfl⟩
theorem scompare_any (a b : ByteArray) (w : World) : Calls Try.prog 76 #[.string a, .string b] w fun e w' => e = .returned (.int .i64 (cmpT a b)) ∧ w = w' := by
  have l1 := less_is a b
  have q := Lib.hid (fun x W => snan_any x W)
  unfold cmpT
  cases h1 : lt8 (byt a) (byt b) with
  | true =>
    rw [h1] at l1
    rw [if_pos rfl]
    go_enter Try.func76, Try.ntmps76
    go_wp2_with fail
    with_reducible refine (q.out _ _).mono ?_
    rintro e w1 ⟨rfl, rfl⟩
    go_wp2_with fail
    with_reducible refine (q.out _ _).mono ?_
    rintro e w2 ⟨rfl, rfl⟩
    go_wp2
    go_ret
    exact ⟨rfl, rfl⟩
  | false =>
    rw [h1] at l1
    rw [if_neg (by simp)]
    cases h2 : lt8 (byt b) (byt a) with
    | true =>
      rw [if_pos rfl]
      have n1 : (a.toList == b.toList) = false := by
        rw [beq_eq_false_iff_ne]
        intro e
        rw [ByteArray.toList_eq, ByteArray.toList_eq] at e
        have e' : byt a = byt b := e
        rw [e', lt8_irrefl] at h2
        cases h2
      clear h1 h2
      go_enter Try.func76, Try.ntmps76
      go_wp2_with fail
      with_reducible refine (q.out _ _).mono ?_
      rintro e w1 ⟨rfl, rfl⟩
      go_wp2_with fail
      with_reducible refine (q.out _ _).mono ?_
      rintro e w2 ⟨rfl, rfl⟩
      go_wp2
      go_ret
      exact ⟨rfl, rfl⟩
    | false =>
      rw [if_neg (by simp)]
      have e := byt_inj (lt8_tri h1 h2)
      subst e
      have n1 : (a.toList == a.toList) = true := by simp
      clear h1 h2
      go_enter Try.func76, Try.ntmps76
      go_wp2_with fail
      with_reducible refine (q.out _ _).mono ?_
      rintro e w1 ⟨rfl, rfl⟩
      go_wp2_with fail
      with_reducible refine (q.out _ _).mono ?_
      rintro e w2 ⟨rfl, rfl⟩
      go_wp2
      go_ret
      exact ⟨rfl, rfl⟩
theorem icompare_any (a b : Int) (w : World) : Calls Try.prog 43 #[.int .i64 a, .int .i64 b] w fun e w' => e = .returned (.int .i64 (cmpZ a b)) ∧ w = w' := by
  have q := Lib.hid (fun x W => inan_any x W)
  unfold cmpZ
  by_cases h1 : a < b
  · rw [if_pos h1]
    go_enter Try.func43, Try.ntmps43
    go_wp2_with fail
    with_reducible refine (q.out _ _).mono ?_
    rintro e w1 ⟨rfl, rfl⟩
    go_wp2_with fail
    with_reducible refine (q.out _ _).mono ?_
    rintro e w2 ⟨rfl, rfl⟩
    go_wp2
    go_ret
    exact ⟨rfl, rfl⟩
  · rw [if_neg h1]
    by_cases h2 : b < a
    · rw [if_pos h2]
      go_enter Try.func43, Try.ntmps43
      go_wp2_with fail
      with_reducible refine (q.out _ _).mono ?_
      rintro e w1 ⟨rfl, rfl⟩
      go_wp2_with fail
      with_reducible refine (q.out _ _).mono ?_
      rintro e w2 ⟨rfl, rfl⟩
      go_wp2
      go_ret
      exact ⟨rfl, rfl⟩
    · rw [if_neg h2]
      go_enter Try.func43, Try.ntmps43
      go_wp2_with fail
      with_reducible refine (q.out _ _).mono ?_
      rintro e w1 ⟨rfl, rfl⟩
      go_wp2_with fail
      with_reducible refine (q.out _ _).mono ?_
      rintro e w2 ⟨rfl, rfl⟩
      go_wp2
      go_ret
      exact ⟨rfl, rfl⟩
end Go.Proofs.Ytbpaoiajfjkmfaa
namespace Go.Proofs.Ytbpaoiajfjkmfaa
open Go.RowKit Go.Sort
set_option linter.unusedVariables false
def Grows (w w' : World) : Prop := ∃ (q : Nat) (os : Array Obj), w' = grow (w.drewN q) os
theorem Grows.refl (w : World) : Grows w w := ⟨0, #[], by rw [grow_empty]; rfl⟩
theorem Grows.drewN {w w' : World} (h : Grows w w') (n : Nat) : Grows w (w'.drewN n) := by
  obtain ⟨q, os, rfl⟩ := h
  refine ⟨q + n, os, ?_⟩
  show World.drewN (grow _ _) n = _
  unfold grow World.drewN
  simp [Nat.add_assoc]
theorem Grows.drew {w w' : World} (h : Grows w w') : Grows w w'.drew := h.drewN 1
theorem Grows.trans {a b c : World} (h : Grows a b) (k : Grows b c) : Grows a c := by
  obtain ⟨q, os, rfl⟩ := k
  obtain ⟨q', os', hw⟩ := h.drewN q
  rw [hw]
  exact ⟨q', os' ++ os, grow_grow _ _ _⟩
theorem Grows.alloc {a w : World} (h : Grows a w) (o : Obj) : Grows a (w.alloc o) := h.trans ⟨0, #[o], by rw [alloc_eq_grow]; rfl⟩
theorem Grows.below {w w' : World} (h : Grows w w') : Below w.heap.size w w' := by
  obtain ⟨q, os, rfl⟩ := h
  refine ⟨rfl, rfl, rfl, ?_, fun k hk => ?_⟩
  · rw [size_grow]; exact Nat.le_add_right _ _
  · exact heap_grow_old (w.drewN q) os hk
theorem Grows.size {w w' : World} (h : Grows w w') : w.heap.size ≤ w'.heap.size := h.below.size
def GivesG (v : Value) (w : World) (e : Ending) (w' : World) : Prop := e = .returned v ∧ Grows w w'
end Go.Proofs.Ytbpaoiajfjkmfaa
namespace Go.Proofs.Ytbpaoiajfjkmfaa
open Go.RowKit
set_option linter.unusedVariables false
set_option linter.unusedSimpArgs false
theorem acm0_any (a b : AlD) (w : World) : Calls Try.prog 75 #[.agg #[.int .i64 a.kind, .int .i64 a.sev, .string a.fn, .string a.file, .int .i64 a.line, .string a.expr], .agg #[.int .i64 b.kind, .int .i64 b.sev, .string b.fn, .string b.file, .int .i64 b.line, .string b.expr]] w (GivesG (.int .i64 (cmpT a.file b.file)) w) := by
  have b0 : Hid (Grows w ((w.alloc (.cells #[.int .i64 a.kind, .int .i64 a.sev, .string a.fn, .string a.file, .int .i64 a.line, .string a.expr] 24)).alloc (.cells #[.int .i64 b.kind, .int .i64 b.sev, .string b.fn, .string b.file, .int .i64 b.line, .string b.expr] 24))) := Lib.hid (((Grows.refl w).alloc _).alloc _)
  have q := Lib.hid (fun W => scompare_any a.file b.file W)
  go_enter Try.func75, Try.ntmps75
  go_wp2_with fail
  with_reducible refine (q.out _).mono ?_
  rintro e w1 ⟨rfl, rfl⟩
  go_wp2
  go_ret
  exact ⟨rfl, b0.out⟩
theorem acm1_any (a b : AlD) (w : World) : Calls Try.prog 77 #[.agg #[.int .i64 a.kind, .int .i64 a.sev, .string a.fn, .string a.file, .int .i64 a.line, .string a.expr], .agg #[.int .i64 b.kind, .int .i64 b.sev, .string b.fn, .string b.file, .int .i64 b.line, .string b.expr]] w (GivesG (.int .i64 (cmpZ a.line b.line)) w) := by
  have b0 : Hid (Grows w ((w.alloc (.cells #[.int .i64 a.kind, .int .i64 a.sev, .string a.fn, .string a.file, .int .i64 a.line, .string a.expr] 24)).alloc (.cells #[.int .i64 b.kind, .int .i64 b.sev, .string b.fn, .string b.file, .int .i64 b.line, .string b.expr] 24))) := Lib.hid (((Grows.refl w).alloc _).alloc _)
  have q := Lib.hid (fun W => icompare_any a.line b.line W)
  go_enter Try.func77, Try.ntmps77
  go_wp2_with fail
  with_reducible refine (q.out _).mono ?_
  rintro e w1 ⟨rfl, rfl⟩
  go_wp2
  go_ret
  exact ⟨rfl, b0.out⟩
theorem acm2_any (a b : AlD) (w : World) : Calls Try.prog 78 #[.agg #[.int .i64 a.kind, .int .i64 a.sev, .string a.fn, .string a.file, .int .i64 a.line, .string a.expr], .agg #[.int .i64 b.kind, .int .i64 b.sev, .string b.fn, .string b.file, .int .i64 b.line, .string b.expr]] w (GivesG (.int .i64 (cmpT a.fn b.fn)) w) := by
  have b0 : Hid (Grows w ((w.alloc (.cells #[.int .i64 a.kind, .int .i64 a.sev, .string a.fn, .string a.file, .int .i64 a.line, .string a.expr] 24)).alloc (.cells #[.int .i64 b.kind, .int .i64 b.sev, .string b.fn, .string b.file, .int .i64 b.line, .string b.expr] 24))) := Lib.hid (((Grows.refl w).alloc _).alloc _)
  have q := Lib.hid (fun W => scompare_any a.fn b.fn W)
  go_enter Try.func78, Try.ntmps78
  go_wp2_with fail
  with_reducible refine (q.out _).mono ?_
  rintro e w1 ⟨rfl, rfl⟩
  go_wp2
  go_ret
  exact ⟨rfl, b0.out⟩
theorem acm3_any (a b : AlD) (w : World) : Calls Try.prog 79 #[.agg #[.int .i64 a.kind, .int .i64 a.sev, .string a.fn, .string a.file, .int .i64 a.line, .string a.expr], .agg #[.int .i64 b.kind, .int .i64 b.sev, .string b.fn, .string b.file, .int .i64 b.line, .string b.expr]] w (GivesG (.int .i64 (cmpZ a.kind b.kind)) w) := by
  have b0 : Hid (Grows w ((w.alloc (.cells #[.int .i64 a.kind, .int .i64 a.sev, .string a.fn, .string a.file, .int .i64 a.line, .string a.expr] 24)).alloc (.cells #[.int .i64 b.kind, .int .i64 b.sev, .string b.fn, .string b.file, .int .i64 b.line, .string b.expr] 24))) := Lib.hid (((Grows.refl w).alloc _).alloc _)
  have q := Lib.hid (fun W => icompare_any a.kind b.kind W)
  go_enter Try.func79, Try.ntmps79
  go_wp2_with fail
  with_reducible refine (q.out _).mono ?_
  rintro e w1 ⟨rfl, rfl⟩
  go_wp2
  go_ret
  exact ⟨rfl, b0.out⟩
theorem acm4_any (a b : AlD) (w : World) : Calls Try.prog 80 #[.agg #[.int .i64 a.kind, .int .i64 a.sev, .string a.fn, .string a.file, .int .i64 a.line, .string a.expr], .agg #[.int .i64 b.kind, .int .i64 b.sev, .string b.fn, .string b.file, .int .i64 b.line, .string b.expr]] w (GivesG (.int .i64 (cmpT a.expr b.expr)) w) := by
  have b0 : Hid (Grows w ((w.alloc (.cells #[.int .i64 a.kind, .int .i64 a.sev, .string a.fn, .string a.file, .int .i64 a.line, .string a.expr] 24)).alloc (.cells #[.int .i64 b.kind, .int .i64 b.sev, .string b.fn, .string b.file, .int .i64 b.line, .string b.expr] 24))) := Lib.hid (((Grows.refl w).alloc _).alloc _)
  have q := Lib.hid (fun W => scompare_any a.expr b.expr W)
  go_enter Try.func80, Try.ntmps80
  go_wp2_with fail
  with_reducible refine (q.out _).mono ?_
  rintro e w1 ⟨rfl, rfl⟩
  go_wp2
  go_ret
  exact ⟨rfl, b0.out⟩
theorem acm5_any (a b : AlD) (w : World) : Calls Try.prog 81 #[.agg #[.int .i64 a.kind, .int .i64 a.sev, .string a.fn, .string a.file, .int .i64 a.line, .string a.expr], .agg #[.int .i64 b.kind, .int .i64 b.sev, .string b.fn, .string b.file, .int .i64 b.line, .string b.expr]] w (GivesG (.int .i64 (cmpZ a.sev b.sev)) w) := by
  have b0 : Hid (Grows w ((w.alloc (.cells #[.int .i64 a.kind, .int .i64 a.sev, .string a.fn, .string a.file, .int .i64 a.line, .string a.expr] 24)).alloc (.cells #[.int .i64 b.kind, .int .i64 b.sev, .string b.fn, .string b.file, .int .i64 b.line, .string b.expr] 24))) := Lib.hid (((Grows.refl w).alloc _).alloc _)
  have q := Lib.hid (fun W => icompare_any a.sev b.sev W)
  go_enter Try.func81, Try.ntmps81
  go_wp2_with fail
  with_reducible refine (q.out _).mono ?_
  rintro e w1 ⟨rfl, rfl⟩
  go_wp2
  go_ret
  exact ⟨rfl, b0.out⟩
def cmpFs : List Nat := [75, 77, 78, 79, 80, 81]
theorem acm_any (a b : AlD) (i : Nat) (hi : i < 6) (w : World) : Calls Try.prog (cmpFs.getD i 0) #[.agg #[.int .i64 a.kind, .int .i64 a.sev, .string a.fn, .string a.file, .int .i64 a.line, .string a.expr], .agg #[.int .i64 b.kind, .int .i64 b.sev, .string b.fn, .string b.file, .int .i64 b.line, .string b.expr]] w (GivesG (.int .i64 ((keysA a b).getD i 0)) w) := by
  rcases (show i = 0 ∨ i = 1 ∨ i = 2 ∨ i = 3 ∨ i = 4 ∨ i = 5 by omega) with rfl | rfl | rfl | rfl | rfl | rfl
  · exact acm0_any a b w
  · exact acm1_any a b w
  · exact acm2_any a b w
  · exact acm3_any a b w
  · exact acm4_any a b w
  · exact acm5_any a b w
theorem acmpd_any (w : World) : Calls Try.prog 54 #[] w fun e w' => e = .returned (.slice (some ⟨w.heap.size, 0, none⟩) 6 6) ∧ w' = w.alloc (.cells #[.func (.func 75) #[] #[], .func (.func 77) #[] #[], .func (.func 78) #[] #[], .func (.func 79) #[] #[], .func (.func 80) #[] #[], .func (.func 81) #[] #[]] 43) := by
  go_enter Try.func54, Try.ntmps54
  go_wp2
  go_ret
  exact ⟨rfl, rfl⟩
set_option maxRecDepth 100000 in
set_option maxHeartbeats 4000000 in
theorem acmpg_any (a b : AlD) (w : World) : Calls Try.prog 42 #[.agg #[.int .i64 a.kind, .int .i64 a.sev, .string a.fn, .string a.file, .int .i64 a.line, .string a.expr], .agg #[.int .i64 b.kind, .int .i64 b.sev, .string b.fn, .string b.file, .int .i64 b.line, .string b.expr]] w (GivesG (.int .i64 (cmpA a b)) w) := by
  rw [cmpA_first]
  obtain ⟨u0, hu0⟩ : ∃ u0, u0 = (w.alloc (.cells #[.int .i64 a.kind, .int .i64 a.sev, .string a.fn, .string a.file, .int .i64 a.line, .string a.expr] 24)).alloc (.cells #[.int .i64 b.kind, .int .i64 b.sev, .string b.fn, .string b.file, .int .i64 b.line, .string b.expr] 24) := ⟨_, rfl⟩
  have b0 : Hid (Grows w u0) := Lib.hid (by rw [hu0]; exact ((Grows.refl w).alloc _).alloc _)
  have Z0 : Hid (Holds u0 w.heap.size 24 #[.int .i64 a.kind, .int .i64 a.sev, .string a.fn, .string a.file, .int .i64 a.line, .string a.expr]) := Lib.hid (by rw [hu0]; exact (Holds.new w _ _).alloc _)
  have Z1 : Hid (Holds u0 (w.heap.size + 1) 24 #[.int .i64 b.kind, .int .i64 b.sev, .string b.fn, .string b.file, .int .i64 b.line, .string b.expr]) := Lib.hid (by rw [hu0]; have q := Holds.new (w.alloc (.cells #[.int .i64 a.kind, .int .i64 a.sev, .string a.fn, .string a.file, .int .i64 a.line, .string a.expr] 24)) 24 #[.int .i64 b.kind, .int .i64 b.sev, .string b.fn, .string b.file, .int .i64 b.line, .string b.expr]; simpa using q)
  have hu0' := Lib.hid hu0
  clear hu0
  have qd := Lib.hid (fun W => acmpd_any W)
  have qc := Lib.hid (fun i hi W => acm_any a b i hi W)
  obtain ⟨kl, hke⟩ : ∃ kl, kl = keysA a b := ⟨_, rfl⟩
  have hkl : kl.length = 6 := by rw [hke]; rfl
  rw [← hke] at qc ⊢
  clear hke
  obtain ⟨ak, asv, af, afi, al, ax⟩ := a
  obtain ⟨bk, bsv, bf, bfi, bl, bx⟩ := b
  dsimp only at Z0 Z1 hu0' qc ⊢
  go_enter Try.func42, Try.ntmps42
  go_wp2_with fail
  rw [← hu0'.out]
  clear hu0'
  with_reducible refine (qd.out _).mono ?_
  rintro e v1 ⟨rfl, hv1⟩
  have c1 : ∀ i, i < 6 → v1.cell? ⟨u0.heap.size, i, none⟩ = some (.func (.func (cmpFs.getD i 0)) #[] #[]) := by
    intro i hi
    rw [hv1]
    have q := (Holds.new u0 43 #[.func (.func 75) #[] #[], .func (.func 77) #[] #[], .func (.func 78) #[] #[], .func (.func 79) #[] #[], .func (.func 80) #[] #[], .func (.func 81) #[] #[]]).cell i
    rw [q]
    rcases (show i = 0 ∨ i = 1 ∨ i = 2 ∨ i = 3 ∨ i = 4 ∨ i = 5 by omega) with rfl | rfl | rfl | rfl | rfl | rfl <;> rfl
  have b1 : Below u0.heap.size u0 v1 := by rw [hv1]; exact box_below _ _ _
  have b1g : Grows u0 v1 := by rw [hv1]; exact (Grows.refl u0).alloc _
  have g1 : u0.heap.size < v1.heap.size := by rw [hv1]; simp
  have C1 := Lib.hid c1
  have G1 := Lib.hid g1
  replace Z0 := Lib.hid (Z0.out.below b1 Z0.out.lt)
  replace Z1 := Lib.hid (Z1.out.below b1 Z1.out.lt)
  replace b0 := Lib.hid (b0.out.trans b1g)
  clear hv1 b1 b1g c1 g1 qd
  generalize u0.heap.size = g at *
  go_wp2
  go_loopw [10] (fun x wr => ∃ i : Nat, i ≤ 6 ∧ x = .int .i64 i ∧ Hid (∀ j, j < i → kl.getD j 0 = 0) ∧ Hid (Grows v1 wr)) (fun x _ => 6 - (intOf x).toNat)
  case atStart => exact ⟨0, by omega, rfl, Lib.hid (fun j hj => by omega), Lib.hid (Grows.refl _)⟩
  case round =>
    obtain ⟨i, hi, rfl, hz, hB⟩ := hrel
    by_cases hlt6 : i < 6
    · have hii : (i : Int) < 6 := by omega
      have hc := (hB.out.below.cell (p := ⟨g, i, none⟩) G1.out).trans (C1.out i hlt6)
      have hat := Lib.hid (fun h0 => firstN_at hz.out (show i < kl.length by omega) h0)
      have hnext : Hid (kl.getD i 0 = 0 → ∀ j, j < i + 1 → kl.getD j 0 = 0) := Lib.hid (fun h j hj => by
        by_cases e : j = i
        · rw [e]; exact h
        · exact hz.out j (by omega))
      have qi := Lib.hid (fun W => qc.out i hlt6 W)
      generalize kl.getD i 0 = v at qi hat hnext
      have hfs : cmpFs.getD i 0 = 75 ∨ cmpFs.getD i 0 = 77 ∨ cmpFs.getD i 0 = 78 ∨ cmpFs.getD i 0 = 79 ∨ cmpFs.getD i 0 = 80 ∨ cmpFs.getD i 0 = 81 := by
        rcases (show i = 0 ∨ i = 1 ∨ i = 2 ∨ i = 3 ∨ i = 4 ∨ i = 5 by omega) with rfl | rfl | rfl | rfl | rfl | rfl <;> simp [cmpFs]
      generalize cmpFs.getD i 0 = fi at hc qi hfs
      have x0 := (Z0.out.below hB.out.below Z0.out.lt).cell 0
      have x1 := (Z0.out.below hB.out.below Z0.out.lt).cell 1
      have x2 := (Z0.out.below hB.out.below Z0.out.lt).cell 2
      have x3 := (Z0.out.below hB.out.below Z0.out.lt).cell 3
      have x4 := (Z0.out.below hB.out.below Z0.out.lt).cell 4
      have x5 := (Z0.out.below hB.out.below Z0.out.lt).cell 5
      have y0 := (Z1.out.below hB.out.below Z1.out.lt).cell 0
      have y1 := (Z1.out.below hB.out.below Z1.out.lt).cell 1
      have y2 := (Z1.out.below hB.out.below Z1.out.lt).cell 2
      have y3 := (Z1.out.below hB.out.below Z1.out.lt).cell 3
      have y4 := (Z1.out.below hB.out.below Z1.out.lt).cell 4
      have y5 := (Z1.out.below hB.out.below Z1.out.lt).cell 5
      simp at x0 x1 x2 x3 x4 x5 y0 y1 y2 y3 y4 y5
      rcases hfs with rfl | rfl | rfl | rfl | rfl | rfl
      all_goals
        go_wp2_with fail
        with_reducible refine (qi.out _).mono ?_
        rintro e v2 ⟨rfl, b2⟩
        replace hB := Lib.hid (hB.out.trans b2)
        clear b2 x0 x1 x2 x3 x4 x5 y0 y1 y2 y3 y4 y5 hc qi
        by_cases h0 : v = 0
        · have hn := Lib.hid (hnext.out h0)
          subst h0
          clear hat
          go_wp2
          go_roundw
          case rel => exact ⟨i + 1, by omega, by go_num, hn, hB⟩
          case measure => simp [intOf]; omega
        · have h0' : (v == 0) = false := by rw [beq_eq_false_iff_ne]; exact h0
          have hv := Lib.hid (hat.out h0)
          clear hat hnext
          go_wp2
          go_ret
          exact ⟨by rw [hv.out]; rfl, b0.out.trans hB.out⟩
    · have hii : ¬ (i : Int) < 6 := by omega
      have hv := Lib.hid (firstN_none (l := kl) (fun j hj => hz.out j (by omega)))
      go_wp2
      go_ret
      exact ⟨by rw [hv.out]; rfl, b0.out.trans hB.out⟩
end Go.Proofs.Ytbpaoiajfjkmfaa
namespace Go.Proofs.Ytbpaoiajfjkmfaa
open Go.RowKit
set_option linter.unusedVariables false
set_option linter.unusedSimpArgs false
theorem aany_yes {α : Type} {q : α → Bool} {l : List α} {d : α} {k : Nat} (hk : k < l.length) (h : q (l.getD k d) = true) : l.any q = true := by
  rw [List.any_eq_true]
  exact ⟨l.getD k d, by simp [List.getD, hk], h⟩
theorem aany_no {α : Type} {q : α → Bool} {l : List α} (d : α) (h : ∀ t, t < l.length → q (l.getD t d) = false) : l.any q = false := by
  rw [List.any_eq_false]
  intro x hx
  obtain ⟨t, ht, rfl⟩ := List.getElem_of_mem hx
  have := h t ht
  simpa [List.getD, ht] using this
set_option maxRecDepth 100000 in
set_option maxHeartbeats 4000000 in
theorem alarge_any (l : List AlD) (a : Option Addr) (n c : Nat) (w : World) (h : RO alC w a n c l) (hW : ∀ s ∈ l, alW s) : Calls Try.prog 7 #[.slice a n c] w fun e w' => e = .returned (.bool (bigA l)) ∧ w = w' := by
  have hlen := h.len
  have hm : (n : Int) ≤ 9223372036854775807 := by have := h.max'; omega
  have hR : Hid (bigA l = (decide (100 < n) || l.any bigOne)) := Lib.hid (by unfold bigA; rw [hlen])
  have hw : Hid (∀ k, k < n → alW (l.getD k al0)) := Lib.hid (fun k hk => hW _ (by rw [hlen] at hk; simp [List.getD, hk]))
  have S := Lib.hid h
  have ys := Lib.hid (fun k (hk : k < n) h => aany_yes (q := bigOne) (l := l) (d := al0) (k := k) (by rw [← hlen]; exact hk) h)
  have ns := Lib.hid (fun (h : ∀ t, t < n → bigOne (l.getD t al0) = false) => aany_no (q := bigOne) (l := l) al0 (by rw [← hlen]; exact h))
  clear h hW hlen
  generalize bigA l = R at *
  generalize l.any bigOne = bs at *
  by_cases g0 : 100 < n
  · have ig0 : (100 : Int) < (n : Int) := by omega
    have hf : Hid (R = true) := Lib.hid (by rw [hR.out, decide_eq_true g0]; simp)
    go_enter Try.func7, Try.ntmps7
    go_wp2
    go_ret
    exact ⟨by rw [hf.out]; try rfl, rfl⟩
  have ig0 : ¬ (100 : Int) < (n : Int) := by omega
  have hR2 : Hid (R = bs) := Lib.hid (by rw [hR.out, decide_eq_false g0]; rfl)
  clear hR
  go_enter Try.func7, Try.ntmps7
  go_wp2
  go_loop [3] (fun y => ∃ k : Nat, k ≤ n ∧ y = .int .i64 k ∧ Hid (∀ t, t < k → bigOne (l.getD t al0) = false)) (fun y => n - (intOf y).toNat)
  case atStart => exact ⟨0, Nat.zero_le _, rfl, Lib.hid (fun t ht => by omega)⟩
  case round =>
    obtain ⟨k, hk, rfl, hal⟩ := hrel
    by_cases hlt : k < n
    · have hki : (k : Int) < (n : Int) := by omega
      obtain ⟨b, off, rfl, -, x0, x1, x2, x3, x4, x5⟩ := al_at S.out hlt
      obtain ⟨-, -, z2, z3, -, z5⟩ := hw.out k hlt
      have hy := Lib.hid (ys.out k hlt)
      have hn : Hid (bigOne (l.getD k al0) = false → ∀ t, t < k + 1 → bigOne (l.getD t al0) = false) := Lib.hid (fun h t ht => by
        by_cases e : t = k
        · rw [e]; exact h
        · exact hal.out t (by omega))
      clear hal ys x0 x1 x4
      have hb : Hid (∀ q, bigOne (l.getD k al0) = q ↔ (decide (300 < (l.getD k al0).fn.size) || (decide (300 < (l.getD k al0).file.size) || decide (300 < (l.getD k al0).expr.size))) = q) := Lib.hid (fun q => by unfold bigOne; exact Iff.rfl)
      generalize bigOne (l.getD k al0) = B at *
      generalize (l.getD k al0).fn = s2 at *
      generalize (l.getD k al0).file = s3 at *
      generalize (l.getD k al0).expr = s5 at *
      by_cases c2 : 300 < s2.size
      · have ic2 : (300 : Int) < (s2.size : Int) := by omega
        have hB : Hid (R = true) := Lib.hid (by rw [hR2.out]; exact hy.out ((hb.out true).2 (by simp [c2])))
        clear hb hn hy
        go_wp2
        go_ret
        exact ⟨by rw [hB.out]; try rfl, rfl⟩
      have ic2 : ¬ (300 : Int) < (s2.size : Int) := by omega
      by_cases c3 : 300 < s3.size
      · have ic3 : (300 : Int) < (s3.size : Int) := by omega
        have hB : Hid (R = true) := Lib.hid (by rw [hR2.out]; exact hy.out ((hb.out true).2 (by simp [c3])))
        clear hb hn hy
        go_wp2
        go_ret
        exact ⟨by rw [hB.out]; try rfl, rfl⟩
      have ic3 : ¬ (300 : Int) < (s3.size : Int) := by omega
      by_cases c5 : 300 < s5.size
      · have ic5 : (300 : Int) < (s5.size : Int) := by omega
        have hB : Hid (R = true) := Lib.hid (by rw [hR2.out]; exact hy.out ((hb.out true).2 (by simp [c5])))
        clear hb hn hy
        go_wp2
        go_ret
        exact ⟨by rw [hB.out]; try rfl, rfl⟩
      have ic5 : ¬ (300 : Int) < (s5.size : Int) := by omega
      have hn' := Lib.hid (hn.out ((hb.out false).2 (by simp [c2, c3, c5])))
      clear hb hn hy
      go_wp2
      go_round
      case rel => exact ⟨k + 1, by omega, by go_num, hn'⟩
      case measure => simp [intOf]; omega
    · obtain rfl : k = n := by omega
      have hki : ¬ (k : Int) < (k : Int) := by omega
      have hB : Hid (R = false) := Lib.hid (by rw [hR2.out]; exact ns.out hal.out)
      clear hal ns ys
      go_wp2
      go_ret
      exact ⟨by rw [hB.out]; try rfl, rfl⟩
end Go.Proofs.Ytbpaoiajfjkmfaa
