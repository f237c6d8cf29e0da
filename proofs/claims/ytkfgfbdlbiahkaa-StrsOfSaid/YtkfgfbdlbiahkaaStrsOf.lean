/- The texts each once, rising: the program's way. -/
import Derived.Test.YtkfgfbdlbiahkaaStrsSame
import Derived.Sort.OwnSorted
import Derived.Sort.Grow
import Derived.Lib.OwnBridge
namespace Go.Proofs.Ytkfgfbdlbiahkaa
open Go.RowKit Go.Sort
set_option linter.unusedVariables false
set_option linter.unusedSimpArgs false

def mk8 (x : B8) : ByteArray := ⟨x.toArray⟩
theorem byt_mk (x : B8) : byt (mk8 x) = x := rfl
theorem mk_byt (s : ByteArray) : mk8 (byt s) = s := byt_inj (byt_mk _)
def ofT (l : List ByteArray) : List ByteArray := (ofL (l.map byt)).map mk8
theorem map_mk : ∀ l : List ByteArray, (l.map byt).map mk8 = l
  | [] => rfl
  | s :: r => by simp only [List.map_cons]; rw [map_mk r, mk_byt]
theorem map_byt : ∀ l : List B8, (l.map mk8).map byt = l
  | [] => rfl
  | s :: r => by simp only [List.map_cons]; rw [map_byt r, byt_mk]
theorem enc_txts (l : List B8) : l.map encStr = txts (l.map mk8) := by unfold txts; rw [List.map_map]; rfl
def RowT (L : List ByteArray) (w : World) (e : Ending) (w' : World) : Prop := ∃ a n c, e = .returned (.slice a n c) ∧ TT w' a n c L ∧ Below w.heap.size w w'
theorem tt_own {w : World} {base : Nat} {a : Option Addr} {n c : Nat} {L : List ByteArray} (h : w.ownsRow base 9 1 (.slice a n c) n (txts L)) : TT w a n c L := by
  obtain ⟨a', c', e1, e2, hs⟩ := sees_ownT h
  injection e1 with e3 e4 e5
  subst e3 e5
  refine ⟨e2, ?_, ?_, hs⟩
  · rcases h.2 with ⟨h1, h2⟩ | ⟨g, cap, cur, h1, _, _, h2, _⟩
    · injection h1 with _ h3 h4; omega
    · injection h1 with _ h3 h4; omega
  · rcases h.2 with ⟨h1, h2⟩ | ⟨g, cap, cur, h1, _, _, h2, h3, _⟩
    · injection h1 with _ h3 h4; subst h4; simp
    · injection h1 with _ _ h4; subst h4; exact h3
/-- Behind the sort and what takes of runs one each. -/
theorem of_end {w w1 : World} {g cap n nn q : Nat} {os : Array Obj} {ss : List B8} (hown : w1.ownsRow w.heap.size 9 1 (.slice (some ⟨g, 0, none⟩) n cap) n (ss.map encStr)) (hb : Below w.heap.size w w1) (hg : w.heap.size ≤ g) (hlen : ss.length = n) :
    RowT ((ofL ss).map mk8) w (.returned (.slice (some ⟨g, 0, none⟩) (Lib.compact (ss.mergeSort fun x y => decide (x ≤ y))).length cap))
      (putRow encStr (Sort.ahead (grow (putRow encStr (Sort.ahead w1 nn) g 0 (ss.mergeSort fun x y => decide (x ≤ y)).toArray) os) q) g 0 (Lib.compact (ss.mergeSort fun x y => decide (x ≤ y)) ++ List.replicate (n - (Lib.compact (ss.mergeSort fun x y => decide (x ≤ y))).length) []).toArray) := by
  have hl2 : (ss.mergeSort fun x y => decide (x ≤ y)).length = ss.length := List.length_mergeSort ss
  have hle := Lib.compact_length_le (ss.mergeSort fun x y => decide (x ≤ y))
  subst hlen
  obtain ⟨-, ⟨h0, _⟩ | ⟨g', cap', cur, hv, hbase, hg', h1, h2, h3, h4⟩⟩ := hown
  · cases h0
  injection hv with ha hn hc
  injection ha with ha
  injection ha with hgg
  subst hgg hc
  have hs := ownsRow_sorted (n := nn) (os := os) (ts := ss.mergeSort fun x y => decide (x ≤ y)) hl2 hbase hg' h1 h2 h3
  have hc := Lib.ownsRow_putRow (q := q) (k := (Lib.compact (ss.mergeSort fun x y => decide (x ≤ y))).length) (ys := Lib.compact (ss.mergeSort fun x y => decide (x ≤ y)) ++ List.replicate (ss.length - (Lib.compact (ss.mergeSort fun x y => decide (x ≤ y))).length) []) hs (by simp; omega) (by omega)
  rw [List.take_left, enc_txts] at hc
  have hT := tt_own hc
  rw [of_sort] at hT
  rw [of_sort]
  exact ⟨_, _, _, rfl, hT, Lib.below_putRow (hb.grown (grownBy_sorted _) hb.size (fun j hj => by cases hj; exact hbase)) hg⟩
set_option maxRecDepth 100000 in
set_option maxHeartbeats 2000000 in
theorem of_some (arg : Value) (n : Nat) (ss : List B8) (hn : n ≤ 4611686018427387903) (w : World)
    (hcl : Calls Try.prog 37 #[arg] w fun e w' => ∃ v', e = .returned v' ∧ w'.ownsRow w.heap.size 9 1 v' n (ss.map encStr) ∧ v' ≠ .slice none 0 0 ∧ Below w.heap.size w w') :
    Calls Try.prog 14 #[arg] w (RowT ((ofL ss).map mk8) w) := by
  have hcl' := Lib.hid hcl
  clear hcl
  go_enter Try.func14, Try.ntmps14
  go_wp2_with fail
  refine hcl'.out.mono ?_
  rintro e w1 ⟨v1, rfl, hown, hnn, hbel⟩
  obtain ⟨g, cap, rfl, hbg, hgl, hncap, hcm, hlen, hH⟩ := Lib.holds_of_ownsRow hown hnn
  have hl2 : (ss.mergeSort fun x y => decide (x ≤ y)).length = n := by rw [List.length_mergeSort]; exact hlen
  have hsort := Try.slices_Sort_string g 0 cap ss w1 hH hgl (by omega)
  rw [hlen] at hsort
  have hsort' := Lib.hid hsort
  have hcomp : Hid (∀ nn os, Calls Try.prog 39 #[.slice (some ⟨g, 0, none⟩) n cap] (grow (putRow encStr (Sort.ahead w1 nn) g 0 (ss.mergeSort fun x y => decide (x ≤ y)).toArray) os) (RowT ((ofL ss).map mk8) w)) := Lib.hid (fun nn os => by
    have hH2 : Sort.Holds encStr (grow (putRow encStr (Sort.ahead w1 nn) g 0 (ss.mergeSort fun x y => decide (x ≤ y)).toArray) os) g 0 (ss.mergeSort fun x y => decide (x ≤ y)).toArray :=
      holds_grow encStr _ os g 0 _ (by simpa [putRow, mapBlock, Sort.ahead] using hgl) (holds_putRow encStr _ g 0 _ _ (holds_ahead encStr w1 nn g 0 _ hH) (by simp))
    have hc := Try.slices_Compact_string g 0 cap (ss.mergeSort fun x y => decide (x ≤ y)) _ hH2 (by omega) (by omega)
    rw [hl2] at hc
    refine hc.mono ?_
    rintro e w' ⟨rfl, q, rfl⟩
    exact of_end hown hbel hbg hlen)
  clear hH hl2 hsort hown hnn hbel hcl'
  go_wp2_with fail
  refine hsort'.out.mono ?_
  rintro e w2 ⟨rfl, nn, os, rfl⟩
  have hc2 := Lib.hid (hcomp.out nn os)
  clear hcomp hsort'
  generalize grow (putRow encStr (Sort.ahead w1 nn) g 0 (ss.mergeSort fun x y => decide (x ≤ y)).toArray) os = w2 at *
  go_wp2_with fail
  refine hc2.out.mono ?_
  rintro e w3 ⟨a3, n3, c3, rfl, hT, hb⟩
  have hfin : Hid (TT w3 a3 n3 c3 ((ofL ss).map mk8) ∧ Below w.heap.size w w3) := Lib.hid ⟨hT, hb⟩
  clear hT hb hc2
  go_wp2
  go_ret
  exact ⟨a3, n3, c3, rfl, hfin.out.1, hfin.out.2⟩
set_option maxRecDepth 100000 in
theorem of_nil (c : Nat) (w : World) : Calls Try.prog 14 #[.slice none 0 c] w (RowT [] w) := by
  have q1 := Lib.hid (Try.slices_Clone_string_nil 0 c w)
  have q2 := Lib.hid (Try.slices_Sort_string_none none 0 w)
  have q3 := Lib.hid (Try.slices_Compact_string_empty none 0 w)
  go_enter Try.func14, Try.ntmps14
  go_wp2_with fail
  refine q1.out.mono ?_
  rintro e w1 ⟨rfl, rfl⟩
  go_wp2_with fail
  refine q2.out.mono ?_
  rintro e w2 ⟨rfl, rfl⟩
  go_wp2_with fail
  refine q3.out.mono ?_
  rintro e w3 ⟨rfl, rfl⟩
  go_wp2
  go_ret
  exact ⟨none, 0, 0, rfl, ⟨rfl, Nat.le_refl _, by simp, .inl rfl⟩, Below.refl _ _⟩
theorem of_any (a : Option Addr) (n c : Nat) (l : List ByteArray) (hn : n ≤ 8796093022208) (w : World) (h : TT w a n c l) : Calls Try.prog 14 #[.slice a n c] w (RowT (ofT l) w) := by
  have hlen := h.len
  cases a with
  | none =>
    have hl : l = [] := by
      rcases h.sees with h1 | ⟨b, off, h1, _⟩
      · exact h1
      · cases h1
    subst hl
    have hn0 : n = 0 := hlen
    subst hn0
    exact of_nil c w
  | some ad =>
    by_cases h0 : n = 0
    · subst h0
      have hl : l = [] := List.eq_nil_of_length_eq_zero hlen.symm
      subst hl
      refine of_some _ 0 [] (by omega) w ((Try.slices_Clone_string_zero ad c w).mono ?_)
      rintro e w' ⟨v', h1, h2, h3, h4⟩
      exact ⟨v', h1, h2, h3, h4⟩
    · rcases h.sees with h1 | ⟨b, off, h1, hb, hc⟩
      · subst h1; exact absurd hlen h0
      · injection h1 with h1
        subst h1
        refine of_some _ n (l.map byt) (by omega) w ((Try.slices_Clone_string b off n c l w (by omega) (by omega) hc).mono ?_)
        rintro e w' ⟨v', h1, h2, h3, h4⟩
        refine ⟨v', h1, ?_, h3, h4⟩
        rw [enc_txts, map_mk]
        rw [List.take_of_length_le (by omega)] at h2
        exact h2
end Go.Proofs.Ytkfgfbdlbiahkaa
