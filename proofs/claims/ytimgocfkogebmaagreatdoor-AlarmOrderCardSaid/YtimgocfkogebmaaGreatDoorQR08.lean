/-
  Words and walks under the law's proof.
-/
import Derived.Test.YtimgocfkogebmaaGreatDoorRows
import Derived.IntWalk
import Derived.Deep.QuietTactic
import Derived.BigQuiet
import Derived.Laws.Cover1
import Derived.Sort.Grow
import Derived.Laws.CopyRow
import Derived.Laws.Tables
import Derived.Shelf.SlSortCmp.NoneTotal
import Derived.Ground.SlsfProg
import Derived.Test.YtimgocfkogebmaaGreatDoorProg
import Derived.WalkSpells
import Derived.Lib.BufferMore
import Derived.Lib.ItoaMem
import Derived.Lib.ItoaLen
import Derived.Lib.Strings
import Derived.Lib.SmallJoins
import Derived.Test.YtimgocfkogebmaaGreatDoorQR01
import Derived.Test.YtimgocfkogebmaaGreatDoorQR06
import Derived.Test.YtimgocfkogebmaaGreatDoorQR07
namespace Go.Proofs.YtimgocfkogebmaaGreatDoor
open Go.RowKit
set_option linter.unusedVariables false
set_option linter.unusedSimpArgs false
theorem less_is (x y : ByteArray) : Op.bytesLess x.toList y.toList = lt8 (byt x) (byt y) := by
  unfold lt8 byt
  rw [ByteArray.toList_eq, ByteArray.toList_eq]
end Go.Proofs.YtimgocfkogebmaaGreatDoor
namespace Go.Proofs.YtimgocfkogebmaaGreatDoor
open Go.RowKit
set_option linter.unusedVariables false
set_option linter.unusedSimpArgs false
def firstN : List Int → Int
  | [] => 0
  | x :: r => thenC x (firstN r)
theorem firstN_skip : ∀ (l : List Int) (k : Nat), (∀ j, j < k → l.getD j 0 = 0) → k ≤ l.length → firstN l = firstN (l.drop k)
  | l, 0, _, _ => rfl
  | [], k + 1, _, h => by simp at h
  | x :: l, k + 1, h, hk => by
    have h0 := h 0 (by omega)
    simp at h0
    subst h0
    show thenC 0 (firstN l) = _
    unfold thenC
    rw [if_pos rfl]
    exact firstN_skip l k (fun j hj => by have := h (j + 1) (by omega); simpa using this) (by simpa using hk)
theorem firstN_at {l : List Int} {k : Nat} (h : ∀ j, j < k → l.getD j 0 = 0) (hk : k < l.length) (h0 : l.getD k 0 ≠ 0) : firstN l = l.getD k 0 := by
  rw [firstN_skip l k h (by omega), List.drop_eq_getElem_cons hk]
  have e : l.getD k 0 = l[k] := by simp [List.getD, hk]
  rw [e] at h0 ⊢
  show thenC l[k] _ = _
  unfold thenC
  rw [if_neg h0]
theorem firstN_none {l : List Int} (h : ∀ j, j < l.length → l.getD j 0 = 0) : firstN l = 0 := by
  rw [firstN_skip l l.length h (Nat.le_refl _), List.drop_length]
  rfl
def keysA (a b : AlD) : List Int := [cmpT a.file b.file, cmpZ a.line b.line, cmpT a.fn b.fn, cmpZ a.kind b.kind, cmpT a.expr b.expr, cmpZ a.sev b.sev]
theorem cmpA_first (a b : AlD) : cmpA a b = firstN (keysA a b) := by
  unfold cmpA keysA firstN firstN firstN firstN firstN firstN firstN
  have : thenC (cmpZ a.sev b.sev) 0 = cmpZ a.sev b.sev := by unfold thenC; split <;> simp_all
  rw [this]
end Go.Proofs.YtimgocfkogebmaaGreatDoor
namespace Go.Proofs.YtimgocfkogebmaaGreatDoor
open Go.RowKit
set_option linter.unusedVariables false
set_option linter.unusedSimpArgs false
theorem snan_any (x : ByteArray) (w : World) : Calls Tryz.prog 118 #[.string x] w fun e w' => e = .returned (.bool false) ∧ w = w' := by
  have n1 : (x.toList == x.toList) = true := by simp
  go_enter Tryz.func118, Tryz.ntmps118
  go_wp2
  go_ret
  exact ⟨rfl, rfl⟩
theorem inan_any (x : Int) (w : World) : Calls Tryz.prog 119 #[.int .i64 x] w fun e w' => e = .returned (.bool false) ∧ w = w' := by
  go_enter Tryz.func119, Tryz.ntmps119
  go_wp2
  go_ret
  exact ⟨rfl, rfl⟩
theorem scompare_any (a b : ByteArray) (w : World) : Calls Tryz.prog 72 #[.string a, .string b] w fun e w' => e = .returned (.int .i64 (cmpT a b)) ∧ w = w' := by
  have l1 := less_is a b
  have q := Lib.hid (fun x W => snan_any x W)
  unfold cmpT
  cases h1 : lt8 (byt a) (byt b) with
  | true =>
    rw [h1] at l1
    rw [if_pos rfl]
    go_enter Tryz.func72, Tryz.ntmps72
    go_wp2_with fail
    with_reducible refine (q.out _ _).mono ?_
    rintro e w1 ⟨rfl, rfl⟩
    go_wp2_with fail
    with_reducible refine (q.out _ _).mono ?_
    rintro e w2 ⟨rfl, rfl⟩
    go_wp2
    go_ret
    exact ⟨rfl, rfl⟩
  | false =>
    rw [h1] at l1
    rw [if_neg (by simp)]
    cases h2 : lt8 (byt b) (byt a) with
    | true =>
      rw [if_pos rfl]
      have n1 : (a.toList == b.toList) = false := by
        rw [beq_eq_false_iff_ne]
        intro e
        rw [ByteArray.toList_eq, ByteArray.toList_eq] at e
        have e' : byt a = byt b := e
        rw [e', lt8_irrefl] at h2
        cases h2
      clear h1 h2
      go_enter Tryz.func72, Tryz.ntmps72
      go_wp2_with fail
      with_reducible refine (q.out _ _).mono ?_
      rintro e w1 ⟨rfl, rfl⟩
      go_wp2_with fail
      with_reducible refine (q.out _ _).mono ?_
      rintro e w2 ⟨rfl, rfl⟩
      go_wp2
      go_ret
      exact ⟨rfl, rfl⟩
    | false =>
      rw [if_neg (by simp)]
      have e := byt_inj (lt8_tri h1 h2)
      subst e
      have n1 : (a.toList == a.toList) = true := by simp
      clear h1 h2
      go_enter Tryz.func72, Tryz.ntmps72
      go_wp2_with fail
      with_reducible refine (q.out _ _).mono ?_
      rintro e w1 ⟨rfl, rfl⟩
      go_wp2_with fail
      with_reducible refine (q.out _ _).mono ?_
      rintro e w2 ⟨rfl, rfl⟩
      go_wp2
      go_ret
      exact ⟨rfl, rfl⟩
theorem icompare_any (a b : Int) (w : World) : Calls Tryz.prog 74 #[.int .i64 a, .int .i64 b] w fun e w' => e = .returned (.int .i64 (cmpZ a b)) ∧ w = w' := by
  have q := Lib.hid (fun x W => inan_any x W)
  unfold cmpZ
  by_cases h1 : a < b
  · rw [if_pos h1]
    go_enter Tryz.func74, Tryz.ntmps74
    go_wp2_with fail
    with_reducible refine (q.out _ _).mono ?_
    rintro e w1 ⟨rfl, rfl⟩
    go_wp2_with fail
    with_reducible refine (q.out _ _).mono ?_
    rintro e w2 ⟨rfl, rfl⟩
    go_wp2
    go_ret
    exact ⟨rfl, rfl⟩
  · rw [if_neg h1]
    by_cases h2 : b < a
    · rw [if_pos h2]
      go_enter Tryz.func74, Tryz.ntmps74
      go_wp2_with fail
      with_reducible refine (q.out _ _).mono ?_
      rintro e w1 ⟨rfl, rfl⟩
      go_wp2_with fail
      with_reducible refine (q.out _ _).mono ?_
      rintro e w2 ⟨rfl, rfl⟩
      go_wp2
      go_ret
      exact ⟨rfl, rfl⟩
    · rw [if_neg h2]
      go_enter Tryz.func74, Tryz.ntmps74
      go_wp2_with fail
      with_reducible refine (q.out _ _).mono ?_
      rintro e w1 ⟨rfl, rfl⟩
      go_wp2_with fail
      with_reducible refine (q.out _ _).mono ?_
      rintro e w2 ⟨rfl, rfl⟩
      go_wp2
      go_ret
      exact ⟨rfl, rfl⟩
end Go.Proofs.YtimgocfkogebmaaGreatDoor
namespace Go.Proofs.YtimgocfkogebmaaGreatDoor
open Go.RowKit Go.Sort
set_option linter.unusedVariables false
def Grows (w w' : World) : Prop := ∃ (q : Nat) (os : Array Obj), w' = grow (w.drewN q) os
theorem Grows.refl (w : World) : Grows w w := ⟨0, #[], by rw [grow_empty]; rfl⟩
theorem Grows.drewN {w w' : World} (h : Grows w w') (n : Nat) : Grows w (w'.drewN n) := by
  obtain ⟨q, os, rfl⟩ := h
  refine ⟨q + n, os, ?_⟩
  show World.drewN (grow _ _) n = _
  unfold grow World.drewN
  simp [Nat.add_assoc]
theorem Grows.drew {w w' : World} (h : Grows w w') : Grows w w'.drew := h.drewN 1
theorem Grows.trans {a b c : World} (h : Grows a b) (k : Grows b c) : Grows a c := by
  obtain ⟨q, os, rfl⟩ := k
  obtain ⟨q', os', hw⟩ := h.drewN q
  rw [hw]
  exact ⟨q', os' ++ os, grow_grow _ _ _⟩
theorem Grows.alloc {a w : World} (h : Grows a w) (o : Obj) : Grows a (w.alloc o) := h.trans ⟨0, #[o], by rw [alloc_eq_grow]; rfl⟩
theorem Grows.below {w w' : World} (h : Grows w w') : Below w.heap.size w w' := by
  obtain ⟨q, os, rfl⟩ := h
  refine ⟨rfl, rfl, rfl, ?_, fun k hk => ?_⟩
  · rw [size_grow]; exact Nat.le_add_right _ _
  · exact heap_grow_old (w.drewN q) os hk
theorem Grows.size {w w' : World} (h : Grows w w') : w.heap.size ≤ w'.heap.size := h.below.size
def GivesG (v : Value) (w : World) (e : Ending) (w' : World) : Prop := e = .returned v ∧ Grows w w'
theorem GivesG.gives {v : Value} {w w' : World} {e : Ending} (h : GivesG v w e w') : Gives v w e w' := ⟨h.1, h.2.below⟩
end Go.Proofs.YtimgocfkogebmaaGreatDoor
namespace Go.Proofs.YtimgocfkogebmaaGreatDoor
open Go.RowKit
set_option linter.unusedVariables false
set_option linter.unusedSimpArgs false
theorem acm0_any (a b : AlD) (w : World) : Calls Tryz.prog 71 #[.agg #[.int .i64 a.kind, .int .i64 a.sev, .string a.fn, .string a.file, .int .i64 a.line, .string a.expr], .agg #[.int .i64 b.kind, .int .i64 b.sev, .string b.fn, .string b.file, .int .i64 b.line, .string b.expr]] w (GivesG (.int .i64 (cmpT a.file b.file)) w) := by
  have b0 : Hid (Grows w ((w.alloc (.cells #[.int .i64 a.kind, .int .i64 a.sev, .string a.fn, .string a.file, .int .i64 a.line, .string a.expr] 23)).alloc (.cells #[.int .i64 b.kind, .int .i64 b.sev, .string b.fn, .string b.file, .int .i64 b.line, .string b.expr] 23))) := Lib.hid (((Grows.refl w).alloc _).alloc _)
  have q := Lib.hid (fun W => scompare_any a.file b.file W)
  go_enter Tryz.func71, Tryz.ntmps71
  go_wp2_with fail
  with_reducible refine (q.out _).mono ?_
  rintro e w1 ⟨rfl, rfl⟩
  go_wp2
  go_ret
  exact ⟨rfl, b0.out⟩
theorem acm1_any (a b : AlD) (w : World) : Calls Tryz.prog 73 #[.agg #[.int .i64 a.kind, .int .i64 a.sev, .string a.fn, .string a.file, .int .i64 a.line, .string a.expr], .agg #[.int .i64 b.kind, .int .i64 b.sev, .string b.fn, .string b.file, .int .i64 b.line, .string b.expr]] w (GivesG (.int .i64 (cmpZ a.line b.line)) w) := by
  have b0 : Hid (Grows w ((w.alloc (.cells #[.int .i64 a.kind, .int .i64 a.sev, .string a.fn, .string a.file, .int .i64 a.line, .string a.expr] 23)).alloc (.cells #[.int .i64 b.kind, .int .i64 b.sev, .string b.fn, .string b.file, .int .i64 b.line, .string b.expr] 23))) := Lib.hid (((Grows.refl w).alloc _).alloc _)
  have q := Lib.hid (fun W => icompare_any a.line b.line W)
  go_enter Tryz.func73, Tryz.ntmps73
  go_wp2_with fail
  with_reducible refine (q.out _).mono ?_
  rintro e w1 ⟨rfl, rfl⟩
  go_wp2
  go_ret
  exact ⟨rfl, b0.out⟩
theorem acm2_any (a b : AlD) (w : World) : Calls Tryz.prog 75 #[.agg #[.int .i64 a.kind, .int .i64 a.sev, .string a.fn, .string a.file, .int .i64 a.line, .string a.expr], .agg #[.int .i64 b.kind, .int .i64 b.sev, .string b.fn, .string b.file, .int .i64 b.line, .string b.expr]] w (GivesG (.int .i64 (cmpT a.fn b.fn)) w) := by
  have b0 : Hid (Grows w ((w.alloc (.cells #[.int .i64 a.kind, .int .i64 a.sev, .string a.fn, .string a.file, .int .i64 a.line, .string a.expr] 23)).alloc (.cells #[.int .i64 b.kind, .int .i64 b.sev, .string b.fn, .string b.file, .int .i64 b.line, .string b.expr] 23))) := Lib.hid (((Grows.refl w).alloc _).alloc _)
  have q := Lib.hid (fun W => scompare_any a.fn b.fn W)
  go_enter Tryz.func75, Tryz.ntmps75
  go_wp2_with fail
  with_reducible refine (q.out _).mono ?_
  rintro e w1 ⟨rfl, rfl⟩
  go_wp2
  go_ret
  exact ⟨rfl, b0.out⟩
theorem acm3_any (a b : AlD) (w : World) : Calls Tryz.prog 76 #[.agg #[.int .i64 a.kind, .int .i64 a.sev, .string a.fn, .string a.file, .int .i64 a.line, .string a.expr], .agg #[.int .i64 b.kind, .int .i64 b.sev, .string b.fn, .string b.file, .int .i64 b.line, .string b.expr]] w (GivesG (.int .i64 (cmpZ a.kind b.kind)) w) := by
  have b0 : Hid (Grows w ((w.alloc (.cells #[.int .i64 a.kind, .int .i64 a.sev, .string a.fn, .string a.file, .int .i64 a.line, .string a.expr] 23)).alloc (.cells #[.int .i64 b.kind, .int .i64 b.sev, .string b.fn, .string b.file, .int .i64 b.line, .string b.expr] 23))) := Lib.hid (((Grows.refl w).alloc _).alloc _)
  have q := Lib.hid (fun W => icompare_any a.kind b.kind W)
  go_enter Tryz.func76, Tryz.ntmps76
  go_wp2_with fail
  with_reducible refine (q.out _).mono ?_
  rintro e w1 ⟨rfl, rfl⟩
  go_wp2
  go_ret
  exact ⟨rfl, b0.out⟩
theorem acm4_any (a b : AlD) (w : World) : Calls Tryz.prog 77 #[.agg #[.int .i64 a.kind, .int .i64 a.sev, .string a.fn, .string a.file, .int .i64 a.line, .string a.expr], .agg #[.int .i64 b.kind, .int .i64 b.sev, .string b.fn, .string b.file, .int .i64 b.line, .string b.expr]] w (GivesG (.int .i64 (cmpT a.expr b.expr)) w) := by
  have b0 : Hid (Grows w ((w.alloc (.cells #[.int .i64 a.kind, .int .i64 a.sev, .string a.fn, .string a.file, .int .i64 a.line, .string a.expr] 23)).alloc (.cells #[.int .i64 b.kind, .int .i64 b.sev, .string b.fn, .string b.file, .int .i64 b.line, .string b.expr] 23))) := Lib.hid (((Grows.refl w).alloc _).alloc _)
  have q := Lib.hid (fun W => scompare_any a.expr b.expr W)
  go_enter Tryz.func77, Tryz.ntmps77
  go_wp2_with fail
  with_reducible refine (q.out _).mono ?_
  rintro e w1 ⟨rfl, rfl⟩
  go_wp2
  go_ret
  exact ⟨rfl, b0.out⟩
theorem acm5_any (a b : AlD) (w : World) : Calls Tryz.prog 78 #[.agg #[.int .i64 a.kind, .int .i64 a.sev, .string a.fn, .string a.file, .int .i64 a.line, .string a.expr], .agg #[.int .i64 b.kind, .int .i64 b.sev, .string b.fn, .string b.file, .int .i64 b.line, .string b.expr]] w (GivesG (.int .i64 (cmpZ a.sev b.sev)) w) := by
  have b0 : Hid (Grows w ((w.alloc (.cells #[.int .i64 a.kind, .int .i64 a.sev, .string a.fn, .string a.file, .int .i64 a.line, .string a.expr] 23)).alloc (.cells #[.int .i64 b.kind, .int .i64 b.sev, .string b.fn, .string b.file, .int .i64 b.line, .string b.expr] 23))) := Lib.hid (((Grows.refl w).alloc _).alloc _)
  have q := Lib.hid (fun W => icompare_any a.sev b.sev W)
  go_enter Tryz.func78, Tryz.ntmps78
  go_wp2_with fail
  with_reducible refine (q.out _).mono ?_
  rintro e w1 ⟨rfl, rfl⟩
  go_wp2
  go_ret
  exact ⟨rfl, b0.out⟩
def cmpFs : List Nat := [71, 73, 75, 76, 77, 78]
theorem acm_any (a b : AlD) (i : Nat) (hi : i < 6) (w : World) : Calls Tryz.prog (cmpFs.getD i 0) #[.agg #[.int .i64 a.kind, .int .i64 a.sev, .string a.fn, .string a.file, .int .i64 a.line, .string a.expr], .agg #[.int .i64 b.kind, .int .i64 b.sev, .string b.fn, .string b.file, .int .i64 b.line, .string b.expr]] w (GivesG (.int .i64 ((keysA a b).getD i 0)) w) := by
  rcases (show i = 0 ∨ i = 1 ∨ i = 2 ∨ i = 3 ∨ i = 4 ∨ i = 5 by omega) with rfl | rfl | rfl | rfl | rfl | rfl
  · exact acm0_any a b w
  · exact acm1_any a b w
  · exact acm2_any a b w
  · exact acm3_any a b w
  · exact acm4_any a b w
  · exact acm5_any a b w
theorem acmpd_any (w : World) : Calls Tryz.prog 36 #[] w fun e w' => e = .returned (.slice (some ⟨w.heap.size, 0, none⟩) 6 6) ∧ w' = w.alloc (.cells #[.func (.func 71) #[] #[], .func (.func 73) #[] #[], .func (.func 75) #[] #[], .func (.func 76) #[] #[], .func (.func 77) #[] #[], .func (.func 78) #[] #[]] 30) := by
  go_enter Tryz.func36, Tryz.ntmps36
  go_wp2
  go_ret
  exact ⟨rfl, rfl⟩
set_option maxRecDepth 100000 in
set_option maxHeartbeats 4000000 in
theorem acmpg_any (a b : AlD) (w : World) : Calls Tryz.prog 11 #[.agg #[.int .i64 a.kind, .int .i64 a.sev, .string a.fn, .string a.file, .int .i64 a.line, .string a.expr], .agg #[.int .i64 b.kind, .int .i64 b.sev, .string b.fn, .string b.file, .int .i64 b.line, .string b.expr]] w (GivesG (.int .i64 (cmpA a b)) w) := by
  rw [cmpA_first]
  obtain ⟨u0, hu0⟩ : ∃ u0, u0 = (w.alloc (.cells #[.int .i64 a.kind, .int .i64 a.sev, .string a.fn, .string a.file, .int .i64 a.line, .string a.expr] 23)).alloc (.cells #[.int .i64 b.kind, .int .i64 b.sev, .string b.fn, .string b.file, .int .i64 b.line, .string b.expr] 23) := ⟨_, rfl⟩
  have b0 : Hid (Grows w u0) := Lib.hid (by rw [hu0]; exact ((Grows.refl w).alloc _).alloc _)
  have Z0 : Hid (Holds u0 w.heap.size 23 #[.int .i64 a.kind, .int .i64 a.sev, .string a.fn, .string a.file, .int .i64 a.line, .string a.expr]) := Lib.hid (by rw [hu0]; exact (Holds.new w _ _).alloc _)
  have Z1 : Hid (Holds u0 (w.heap.size + 1) 23 #[.int .i64 b.kind, .int .i64 b.sev, .string b.fn, .string b.file, .int .i64 b.line, .string b.expr]) := Lib.hid (by rw [hu0]; have q := Holds.new (w.alloc (.cells #[.int .i64 a.kind, .int .i64 a.sev, .string a.fn, .string a.file, .int .i64 a.line, .string a.expr] 23)) 23 #[.int .i64 b.kind, .int .i64 b.sev, .string b.fn, .string b.file, .int .i64 b.line, .string b.expr]; simpa using q)
  have hu0' := Lib.hid hu0
  clear hu0
  have qd := Lib.hid (fun W => acmpd_any W)
  have qc := Lib.hid (fun i hi W => acm_any a b i hi W)
  obtain ⟨kl, hke⟩ : ∃ kl, kl = keysA a b := ⟨_, rfl⟩
  have hkl : kl.length = 6 := by rw [hke]; rfl
  rw [← hke] at qc ⊢
  clear hke
  obtain ⟨ak, asv, af, afi, al, ax⟩ := a
  obtain ⟨bk, bsv, bf, bfi, bl, bx⟩ := b
  dsimp only at Z0 Z1 hu0' qc ⊢
  go_enter Tryz.func11, Tryz.ntmps11
  go_wp2_with fail
  rw [← hu0'.out]
  clear hu0'
  with_reducible refine (qd.out _).mono ?_
  rintro e v1 ⟨rfl, hv1⟩
  have c1 : ∀ i, i < 6 → v1.cell? ⟨u0.heap.size, i, none⟩ = some (.func (.func (cmpFs.getD i 0)) #[] #[]) := by
    intro i hi
    rw [hv1]
    have q := (Holds.new u0 30 #[.func (.func 71) #[] #[], .func (.func 73) #[] #[], .func (.func 75) #[] #[], .func (.func 76) #[] #[], .func (.func 77) #[] #[], .func (.func 78) #[] #[]]).cell i
    rw [q]
    rcases (show i = 0 ∨ i = 1 ∨ i = 2 ∨ i = 3 ∨ i = 4 ∨ i = 5 by omega) with rfl | rfl | rfl | rfl | rfl | rfl <;> rfl
  have b1 : Below u0.heap.size u0 v1 := by rw [hv1]; exact box_below _ _ _
  have b1g : Grows u0 v1 := by rw [hv1]; exact (Grows.refl u0).alloc _
  have g1 : u0.heap.size < v1.heap.size := by rw [hv1]; simp
  have C1 := Lib.hid c1
  have G1 := Lib.hid g1
  replace Z0 := Lib.hid (Z0.out.below b1 Z0.out.lt)
  replace Z1 := Lib.hid (Z1.out.below b1 Z1.out.lt)
  replace b0 := Lib.hid (b0.out.trans b1g)
  clear hv1 b1 b1g c1 g1 qd
  generalize u0.heap.size = g at *
  go_wp2
  go_loopw [10] (fun x wr => ∃ i : Nat, i ≤ 6 ∧ x = .int .i64 i ∧ Hid (∀ j, j < i → kl.getD j 0 = 0) ∧ Hid (Grows v1 wr)) (fun x _ => 6 - (intOf x).toNat)
  case atStart => exact ⟨0, by omega, rfl, Lib.hid (fun j hj => by omega), Lib.hid (Grows.refl _)⟩
  case round =>
    obtain ⟨i, hi, rfl, hz, hB⟩ := hrel
    by_cases hlt6 : i < 6
    · have hii : (i : Int) < 6 := by omega
      have hc := (hB.out.below.cell (p := ⟨g, i, none⟩) G1.out).trans (C1.out i hlt6)
      have hat := Lib.hid (fun h0 => firstN_at hz.out (show i < kl.length by omega) h0)
      have hnext : Hid (kl.getD i 0 = 0 → ∀ j, j < i + 1 → kl.getD j 0 = 0) := Lib.hid (fun h j hj => by
        by_cases e : j = i
        · rw [e]; exact h
        · exact hz.out j (by omega))
      have qi := Lib.hid (fun W => qc.out i hlt6 W)
      generalize kl.getD i 0 = v at qi hat hnext
      have hfs : cmpFs.getD i 0 = 71 ∨ cmpFs.getD i 0 = 73 ∨ cmpFs.getD i 0 = 75 ∨ cmpFs.getD i 0 = 76 ∨ cmpFs.getD i 0 = 77 ∨ cmpFs.getD i 0 = 78 := by
        rcases (show i = 0 ∨ i = 1 ∨ i = 2 ∨ i = 3 ∨ i = 4 ∨ i = 5 by omega) with rfl | rfl | rfl | rfl | rfl | rfl <;> simp [cmpFs]
      generalize cmpFs.getD i 0 = fi at hc qi hfs
      have x0 := (Z0.out.below hB.out.below Z0.out.lt).cell 0
      have x1 := (Z0.out.below hB.out.below Z0.out.lt).cell 1
      have x2 := (Z0.out.below hB.out.below Z0.out.lt).cell 2
      have x3 := (Z0.out.below hB.out.below Z0.out.lt).cell 3
      have x4 := (Z0.out.below hB.out.below Z0.out.lt).cell 4
      have x5 := (Z0.out.below hB.out.below Z0.out.lt).cell 5
      have y0 := (Z1.out.below hB.out.below Z1.out.lt).cell 0
      have y1 := (Z1.out.below hB.out.below Z1.out.lt).cell 1
      have y2 := (Z1.out.below hB.out.below Z1.out.lt).cell 2
      have y3 := (Z1.out.below hB.out.below Z1.out.lt).cell 3
      have y4 := (Z1.out.below hB.out.below Z1.out.lt).cell 4
      have y5 := (Z1.out.below hB.out.below Z1.out.lt).cell 5
      simp at x0 x1 x2 x3 x4 x5 y0 y1 y2 y3 y4 y5
      rcases hfs with rfl | rfl | rfl | rfl | rfl | rfl
      all_goals
        go_wp2_with fail
        with_reducible refine (qi.out _).mono ?_
        rintro e v2 ⟨rfl, b2⟩
        replace hB := Lib.hid (hB.out.trans b2)
        clear b2 x0 x1 x2 x3 x4 x5 y0 y1 y2 y3 y4 y5 hc qi
        by_cases h0 : v = 0
        · have hn := Lib.hid (hnext.out h0)
          subst h0
          clear hat
          go_wp2
          go_roundw
          case rel => exact ⟨i + 1, by omega, by go_num, hn, hB⟩
          case measure => simp [intOf]; omega
        · have h0' : (v == 0) = false := by rw [beq_eq_false_iff_ne]; exact h0
          have hv := Lib.hid (hat.out h0)
          clear hat hnext
          go_wp2
          go_ret
          exact ⟨by rw [hv.out]; rfl, b0.out.trans hB.out⟩
    · have hii : ¬ (i : Int) < 6 := by omega
      have hv := Lib.hid (firstN_none (l := kl) (fun j hj => hz.out j (by omega)))
      go_wp2
      go_ret
      exact ⟨by rw [hv.out]; rfl, b0.out.trans hB.out⟩
theorem acmpo_any (a b : AlD) (w : World) : Calls Tryz.prog 11 #[.agg #[.int .i64 a.kind, .int .i64 a.sev, .string a.fn, .string a.file, .int .i64 a.line, .string a.expr], .agg #[.int .i64 b.kind, .int .i64 b.sev, .string b.fn, .string b.file, .int .i64 b.line, .string b.expr]] w (Gives (.int .i64 (cmpA a b)) w) := (acmpg_any a b w).mono fun _ _ h => h.gives
end Go.Proofs.YtimgocfkogebmaaGreatDoor
namespace Go.Proofs.YtimgocfkogebmaaGreatDoor
open Go.RowKit Go.ChangeShapes Go.WideShapes Go.Deep
set_option linter.unusedVariables false
set_option linter.unusedSimpArgs false
def alC (a : AlD) : List Value := [.int .i64 a.kind, .int .i64 a.sev, .string a.fn, .string a.file, .int .i64 a.line, .string a.expr]
def al0 : AlD := ⟨0, 0, ByteArray.empty, ByteArray.empty, 0, ByteArray.empty⟩
theorem alC_len (a : AlD) : (alC a).length = 6 := rfl
def alW (a : AlD) : Prop := (Lit.int .i64 a.kind).wf = true ∧ (Lit.int .i64 a.sev).wf = true ∧ a.fn.size ≤ 140737488351232 ∧ a.file.size ≤ 140737488351232 ∧ (Lit.int .i64 a.line).wf = true ∧ a.expr.size ≤ 140737488351232
def AlSl (w : World) (a : Option Addr) (n c : Nat) : Prop := ∃ l, RO alC w a n c l ∧ (∀ s ∈ l, alW s) ∧ n ≤ 1954687338211
theorem al_bytes : Tryz.prog.bytesOf 23 = 72 := by kernel_rfl
theorem al_row {H : Type} {enc : TypeId × Value → H} {w : World} {fuel : Nat} {r : Option Addr} {len cap : Nat} {x : DataW H × List MemPlace}
    (h : DataW.trod enc Tryz.prog w 0 (fun _ => true) true fuel 24 [.slice r len cap] = some x) (hR : Reach Tryz.prog 24 x.1) : AlSl w r len cap := by
  obtain ⟨h1, h2, h3⟩ := flat_row 2 [3, 3, 9, 9, 3, 9] Tryz.underlying24 (by kernel_rfl) (by kernel_rfl) (by kernel_rfl) (by decide) h hR
  have hn : len ≤ 1954687338211 := by
    rcases h3 with rfl | ⟨hb, _⟩
    · omega
    · rw [al_bytes] at hb; omega
  obtain ⟨l, g1, g2⟩ := row_of (w := w) (r := r) (len := len) (cap := cap) alC 6 alC_len (by decide) alW al0 h1 h2 (by
    rcases h3 with rfl | ⟨_, b, off, rfl, hB, hc⟩
    · exact .inl rfl
    · refine .inr ⟨b, off, rfl, hB, fun i hi => ?_⟩
      obtain ⟨v0, y0, m0, c0, t0, r0⟩ := hc i hi 0 _ rfl
      obtain ⟨v1, y1, m1, c1, t1, r1⟩ := hc i hi 1 _ rfl
      obtain ⟨v2, y2, m2, c2, t2, r2⟩ := hc i hi 2 _ rfl
      obtain ⟨v3, y3, m3, c3, t3, r3⟩ := hc i hi 3 _ rfl
      obtain ⟨v4, y4, m4, c4, t4, r4⟩ := hc i hi 4 _ rfl
      obtain ⟨v5, y5, m5, c5, t5, r5⟩ := hc i hi 5 _ rfl
      obtain ⟨z0, e0', _, w0⟩ := DataW.trod_int Tryz.underlying3 t0
      obtain ⟨z1, e1, _, w1⟩ := DataW.trod_int Tryz.underlying3 t1
      obtain ⟨z2, e2, ez2, _⟩ := DataW.trod_string Tryz.underlying9 t2
      obtain ⟨z3, e3, ez3, _⟩ := DataW.trod_string Tryz.underlying9 t3
      obtain ⟨z4, e4, _, w4⟩ := DataW.trod_int Tryz.underlying3 t4
      obtain ⟨z5, e5, ez5, _⟩ := DataW.trod_string Tryz.underlying9 t5
      simp at e0' e1 e2 e3 e4 e5
      subst e0' e1 e2 e3 e4 e5
      subst ez2 ez3 ez5
      refine ⟨⟨z0, z1, z2, z3, z4, z5⟩, ⟨w0, w1, reach_string r2, reach_string r3, w4, reach_string r5⟩, fun j hj => ?_⟩
      match j, hj with
      | 0, _ => exact c0
      | 1, _ => exact c1
      | 2, _ => exact c2
      | 3, _ => exact c3
      | 4, _ => exact c4
      | 5, _ => exact c5)
  exact ⟨l, g1, g2, hn⟩
theorem al_at {w : World} {a : Option Addr} {n c : Nat} {l : List AlD} (h : RO alC w a n c l) {i : Nat} (hi : i < n) :
    ∃ b off, a = some ⟨b, off, none⟩ ∧ b < w.heap.size ∧ w.cell? ⟨b, off + i * 6, none⟩ = some (.int .i64 (l.getD i al0).kind) ∧ w.cell? ⟨b, off + i * 6 + 1, none⟩ = some (.int .i64 (l.getD i al0).sev) ∧ w.cell? ⟨b, off + i * 6 + 2, none⟩ = some (.string (l.getD i al0).fn) ∧ w.cell? ⟨b, off + i * 6 + 3, none⟩ = some (.string (l.getD i al0).file) ∧ w.cell? ⟨b, off + i * 6 + 4, none⟩ = some (.int .i64 (l.getD i al0).line) ∧ w.cell? ⟨b, off + i * 6 + 5, none⟩ = some (.string (l.getD i al0).expr) := by
  obtain ⟨b, off, h1, h2, h3⟩ := h.at_ alC_len (by decide) al0 hi
  exact ⟨b, off, h1, h2, h3 0 (by decide), h3 1 (by decide), h3 2 (by decide), h3 3 (by decide), h3 4 (by decide), h3 5 (by decide)⟩
def bigOne (a : AlD) : Bool := decide (300 < a.fn.size) || (decide (300 < a.file.size) || decide (300 < a.expr.size))
def bigA (l : List AlD) : Bool := decide (100 < l.length) || l.any bigOne
theorem small_of {l : List AlD} (h : bigA l = false) : l.length ≤ 100 ∧ ∀ a ∈ l, a.fn.size ≤ 300 ∧ a.file.size ≤ 300 ∧ a.expr.size ≤ 300 := by
  unfold bigA at h
  simp only [Bool.or_eq_false_iff, decide_eq_false_iff_not, List.any_eq_false] at h
  refine ⟨by omega, fun a ha => ?_⟩
  have := h.2 a ha
  unfold bigOne at this
  simp at this
  exact ⟨by omega, by omega, by omega⟩
end Go.Proofs.YtimgocfkogebmaaGreatDoor
namespace Go.Proofs.YtimgocfkogebmaaGreatDoor
open Go.RowKit
set_option linter.unusedVariables false
set_option linter.unusedSimpArgs false
theorem aany_yes {α : Type} {q : α → Bool} {l : List α} {d : α} {k : Nat} (hk : k < l.length) (h : q (l.getD k d) = true) : l.any q = true := by
  rw [List.any_eq_true]
  exact ⟨l.getD k d, by simp [List.getD, hk], h⟩
theorem aany_no {α : Type} {q : α → Bool} {l : List α} (d : α) (h : ∀ t, t < l.length → q (l.getD t d) = false) : l.any q = false := by
  rw [List.any_eq_false]
  intro x hx
  obtain ⟨t, ht, rfl⟩ := List.getElem_of_mem hx
  have := h t ht
  simpa [List.getD, ht] using this
set_option maxRecDepth 100000 in
set_option maxHeartbeats 4000000 in
theorem alarge_any (l : List AlD) (a : Option Addr) (n c : Nat) (w : World) (h : RO alC w a n c l) (hW : ∀ s ∈ l, alW s) : Calls Tryz.prog 7 #[.slice a n c] w fun e w' => e = .returned (.bool (bigA l)) ∧ w = w' := by
  have hlen := h.len
  have hm : (n : Int) ≤ 9223372036854775807 := by have := h.max'; omega
  have hR : Hid (bigA l = (decide (100 < n) || l.any bigOne)) := Lib.hid (by unfold bigA; rw [hlen])
  have hw : Hid (∀ k, k < n → alW (l.getD k al0)) := Lib.hid (fun k hk => hW _ (by rw [hlen] at hk; simp [List.getD, hk]))
  have S := Lib.hid h
  have ys := Lib.hid (fun k (hk : k < n) h => aany_yes (q := bigOne) (l := l) (d := al0) (k := k) (by rw [← hlen]; exact hk) h)
  have ns := Lib.hid (fun (h : ∀ t, t < n → bigOne (l.getD t al0) = false) => aany_no (q := bigOne) (l := l) al0 (by rw [← hlen]; exact h))
  clear h hW hlen
  generalize bigA l = R at *
  generalize l.any bigOne = bs at *
  by_cases g0 : 100 < n
  · have ig0 : (100 : Int) < (n : Int) := by omega
    have hf : Hid (R = true) := Lib.hid (by rw [hR.out, decide_eq_true g0]; simp)
    go_enter Tryz.func7, Tryz.ntmps7
    go_wp2
    go_ret
    exact ⟨by rw [hf.out]; try rfl, rfl⟩
  have ig0 : ¬ (100 : Int) < (n : Int) := by omega
  have hR2 : Hid (R = bs) := Lib.hid (by rw [hR.out, decide_eq_false g0]; rfl)
  clear hR
  go_enter Tryz.func7, Tryz.ntmps7
  go_wp2
  go_loop [3] (fun y => ∃ k : Nat, k ≤ n ∧ y = .int .i64 k ∧ Hid (∀ t, t < k → bigOne (l.getD t al0) = false)) (fun y => n - (intOf y).toNat)
  case atStart => exact ⟨0, Nat.zero_le _, rfl, Lib.hid (fun t ht => by omega)⟩
  case round =>
    obtain ⟨k, hk, rfl, hal⟩ := hrel
    by_cases hlt : k < n
    · have hki : (k : Int) < (n : Int) := by omega
      obtain ⟨b, off, rfl, -, x0, x1, x2, x3, x4, x5⟩ := al_at S.out hlt
      obtain ⟨-, -, z2, z3, -, z5⟩ := hw.out k hlt
      have hy := Lib.hid (ys.out k hlt)
      have hn : Hid (bigOne (l.getD k al0) = false → ∀ t, t < k + 1 → bigOne (l.getD t al0) = false) := Lib.hid (fun h t ht => by
        by_cases e : t = k
        · rw [e]; exact h
        · exact hal.out t (by omega))
      clear hal ys x0 x1 x4
      have hb : Hid (∀ q, bigOne (l.getD k al0) = q ↔ (decide (300 < (l.getD k al0).fn.size) || (decide (300 < (l.getD k al0).file.size) || decide (300 < (l.getD k al0).expr.size))) = q) := Lib.hid (fun q => by unfold bigOne; exact Iff.rfl)
      generalize bigOne (l.getD k al0) = B at *
      generalize (l.getD k al0).fn = s2 at *
      generalize (l.getD k al0).file = s3 at *
      generalize (l.getD k al0).expr = s5 at *
      by_cases c2 : 300 < s2.size
      · have ic2 : (300 : Int) < (s2.size : Int) := by omega
        have hB : Hid (R = true) := Lib.hid (by rw [hR2.out]; exact hy.out ((hb.out true).2 (by simp [c2])))
        clear hb hn hy
        go_wp2
        go_ret
        exact ⟨by rw [hB.out]; try rfl, rfl⟩
      have ic2 : ¬ (300 : Int) < (s2.size : Int) := by omega
      by_cases c3 : 300 < s3.size
      · have ic3 : (300 : Int) < (s3.size : Int) := by omega
        have hB : Hid (R = true) := Lib.hid (by rw [hR2.out]; exact hy.out ((hb.out true).2 (by simp [c3])))
        clear hb hn hy
        go_wp2
        go_ret
        exact ⟨by rw [hB.out]; try rfl, rfl⟩
      have ic3 : ¬ (300 : Int) < (s3.size : Int) := by omega
      by_cases c5 : 300 < s5.size
      · have ic5 : (300 : Int) < (s5.size : Int) := by omega
        have hB : Hid (R = true) := Lib.hid (by rw [hR2.out]; exact hy.out ((hb.out true).2 (by simp [c5])))
        clear hb hn hy
        go_wp2
        go_ret
        exact ⟨by rw [hB.out]; try rfl, rfl⟩
      have ic5 : ¬ (300 : Int) < (s5.size : Int) := by omega
      have hn' := Lib.hid (hn.out ((hb.out false).2 (by simp [c2, c3, c5])))
      clear hb hn hy
      go_wp2
      go_round
      case rel => exact ⟨k + 1, by omega, by go_num, hn'⟩
      case measure => simp [intOf]; omega
    · obtain rfl : k = n := by omega
      have hki : ¬ (k : Int) < (k : Int) := by omega
      have hB : Hid (R = false) := Lib.hid (by rw [hR2.out]; exact ns.out hal.out)
      clear hal ns ys
      go_wp2
      go_ret
      exact ⟨by rw [hB.out]; try rfl, rfl⟩
end Go.Proofs.YtimgocfkogebmaaGreatDoor
namespace Go.Proofs.YtimgocfkogebmaaGreatDoor
open Go.RowKit
set_option linter.unusedVariables false
set_option linter.unusedSimpArgs false
theorem infoAl : (Tryz.prog.info? 23).map (fun i => (i.zero.map fun z => z.cells.size, i.size, i.bytes)) = some (some 6, 6, 72) := by kernel_rfl
theorem infoAlZ : ∃ i z, Tryz.prog.info? 23 = some i ∧ i.zero = some z ∧ i.size = 6 ∧ i.bytes = 72 ∧ z.cells.size = 6 := by
  have h := infoAl
  cases hi : Tryz.prog.info? 23 with
  | none => rw [hi] at h; simp at h
  | some i =>
    rw [hi] at h
    simp at h
    obtain ⟨⟨z, hz, h1⟩, h2, h3⟩ := h
    exact ⟨i, z, rfl, hz, h2, h3, h1⟩
def alcells (l : List AlD) : List Value := l.flatMap alC
theorem alcells_snoc (l : List AlD) (x : AlD) : alcells (l ++ [x]) = alcells l ++ alC x := by simp [alcells]
theorem alcells_one {l : List AlD} {u : Value} (h : u ∈ alcells l) : u.oneCell' = true := by
  obtain ⟨a, _, ha⟩ := List.mem_flatMap.1 h
  simp [alC] at ha
  rcases ha with rfl | rfl | rfl | rfl | rfl | rfl <;> rfl
theorem ro_own {w : World} {base : Nat} {e : TypeId} {v : Value} {n : Nat} {l : List AlD} (h : w.ownsRow base e 6 v n (alcells l)) : ∃ a c, v = .slice a n c ∧ RO alC w a n c l := by
  have hl := h.1
  have h2 := flat_len alC_len l
  unfold alcells at hl
  obtain ⟨a, c, rfl, h3, h4, h5⟩ := seesC_own h
  exact ⟨a, c, rfl, ⟨by omega, h3, h4, h5⟩⟩
theorem wpList_append_al {ops : Array Oper} {rest : List Oper} {o : Oper} {a : Act} {Q : Exit → Act → World → Prop} (w : World) (hg : o.guard = none) (s x : Operand) (hop : o.op = Op.call { callee := Callee.builtin Builtin.append, args := #[s, x], argTypes := #[24, 24] })
    (w0 : World) (v : Value) (n : Nat) (l : List AlD) (hown : w.ownsRow w0.heap.size 23 6 v n (alcells l)) (hb : Below w0.heap.size w0 w) (y : AlD)
    (hsv : a.eval s = v) (hg2 : Nat) (hx : a.eval x = .slice (some ⟨hg2, 0, none⟩) 1 1) (hh : hg2 = w.heap.size) (hn : n ≤ 1000000)
    (hK : ∀ v' w', w'.ownsRow w0.heap.size 23 6 v' (n + 1) (alcells (l ++ [y])) → Below w0.heap.size w0 w' → wpList Tryz.prog ops Q rest (a.put o.dst v') w') :
    wpList Tryz.prog ops Q (o :: rest) a (w.alloc (.cells #[.int .i64 y.kind, .int .i64 y.sev, .string y.fn, .string y.file, .int .i64 y.line, .string y.expr] 23)) := by
  subst hh
  obtain ⟨i0, z0, hi, hz, h6, h72, hz6⟩ := infoAlZ
  have hb1 := box_below w #[.int .i64 y.kind, .int .i64 y.sev, .string y.fn, .string y.file, .int .i64 y.line, .string y.expr] 23
  refine wpList_append_cellsB _ hg s x 24 hop w0 23 i0 z0 6 72 Tryz.underlying24 hi hz h6 h72 hz6 (by omega) v n (alcells l) (own_below hown hb1) (hb.trans (hb1.mono hb.size)) _ _ 1 1 (alC y) rfl (seesC_lit w 23 _) (fun u hu => alcells_one (l := [y]) (by simpa [alcells] using hu)) hsv hx (by unfold maxLen; omega) (by omega) ?_
  intro v' w' h1 h2
  exact hK v' w' (by rw [alcells_snoc]; exact h1) h2
theorem alcells_len (L : List AlD) : (alcells L).length = L.length * 6 := flat_len alC_len L
theorem own_al_nil (w : World) (base : Nat) : w.ownsRow base 23 6 (.slice none 0 0) 0 (alcells []) := ⟨by simp [alcells], .inl ⟨rfl, rfl⟩⟩
end Go.Proofs.YtimgocfkogebmaaGreatDoor
namespace Go.Proofs.YtimgocfkogebmaaGreatDoor
open Go.Sort
set_option linter.unusedVariables false
set_option linter.unusedSimpArgs false
theorem Cm.on {α β : Type} {c : α → α → Int} {E : α → α → Prop} (h : Cm c E) (g : β → α) : Cm (fun a b => c (g a) (g b)) (fun a b => E (g a) (g b)) :=
  ⟨fun a b => h.range _ _, fun a b => h.zero _ _, fun a b => h.anti _ _, fun a b d => h.trans _ _ _⟩
theorem Cm.swo {α : Type} {c : α → α → Int} (h : Cm c (fun a b => a = b)) : SWO (ltOf c) where
  irrefl x := by
    unfold ltOf
    rw [(h.zero x x).2 rfl]
    rfl
  trans x y z h1 h2 := by
    unfold ltOf at *
    have q := h.trans x y z
    have q2 := h.trans z x y
    have a1 := h.anti x y
    have a2 := h.anti y z
    have a3 := h.anti x z
    simp at h1 h2 ⊢
    omega
  ntrans x y z h1 h2 := by
    unfold ltOf at *
    have q := h.trans z y x
    have a1 := h.anti x y
    have a2 := h.anti y z
    have a3 := h.anti x z
    simp at h1 h2 ⊢
    omega
theorem Cm.tot {α : Type} {c : α → α → Int} (h : Cm c (fun a b => a = b)) (x y : α) (h1 : ltOf c x y = false) (h2 : ltOf c y x = false) : x = y := by
  unfold ltOf at *
  have a1 := h.anti x y
  simp at h1 h2
  exact (h.zero x y).1 (by omega)
end Go.Proofs.YtimgocfkogebmaaGreatDoor
namespace Go.Proofs
open Go.Shelf
def Tryz.sortAl_ren : Go.Shelf.Ren := ⟨fun | 6 => 40 | 15 => 80 | 14 => 79 | 28 => 128 | 29 => 129 | 20 => 120 | 21 => 121 | 22 => 122 | 23 => 123 | 24 => 124 | 25 => 125 | 26 => 126 | 27 => 127 | 46 => 163 | 47 => 164 | 48 => 165 | 49 => 166 | 50 => 167 | 57 => 197 | n => n, fun | 22 => 24 | 24 => 23 | 25 => 30 | 3 => 3 | 39 => 109 | 0 => 0 | 53 => 154 | 55 => 156 | 4 => 4 | 46 => 147 | 45 => 146 | 50 => 151 | 5 => 5 | 9 => 9 | 66 => 176 | 70 => 180 | 76 => 187 | 77 => 188 | n => n, fun | n => n⟩
theorem Tryz.sortAl : Go.Proofs.SlLaysF0.n6 Tryz.prog Tryz.sortAl_ren := {
  mixed := by kernel_rfl
  f6 := ⟨Tryz.f40.name, by decide, Tryz.func40.trans (congrArg some (by kernel_rfl))⟩
  f14 := ⟨Tryz.f79.name, by decide, Tryz.func79.trans (congrArg some (by kernel_rfl))⟩
  f15 := Tryz.func80.trans (congrArg some (by kernel_rfl))
  f20 := ⟨Tryz.f120.name, by decide, Tryz.func120.trans (congrArg some (by kernel_rfl))⟩
  f21 := ⟨Tryz.f121.name, by decide, Tryz.func121.trans (congrArg some (by kernel_rfl))⟩
  f22 := ⟨Tryz.f122.name, by decide, Tryz.func122.trans (congrArg some (by kernel_rfl))⟩
  f23 := ⟨Tryz.f123.name, by decide, Tryz.func123.trans (congrArg some (by kernel_rfl))⟩
  f24 := ⟨Tryz.f124.name, by decide, Tryz.func124.trans (congrArg some (by kernel_rfl))⟩
  f25 := ⟨Tryz.f125.name, by decide, Tryz.func125.trans (congrArg some (by kernel_rfl))⟩
  f26 := ⟨Tryz.f126.name, by decide, Tryz.func126.trans (congrArg some (by kernel_rfl))⟩
  f27 := ⟨Tryz.f127.name, by decide, Tryz.func127.trans (congrArg some (by kernel_rfl))⟩
  f28 := Tryz.func128.trans (congrArg some (by kernel_rfl))
  f29 := Tryz.func129.trans (congrArg some (by kernel_rfl))
  f46 := ⟨Tryz.f163.name, by decide, Tryz.func163.trans (congrArg some (by kernel_rfl))⟩
  f47 := Tryz.func164.trans (congrArg some (by kernel_rfl))
  f48 := Tryz.func165.trans (congrArg some (by kernel_rfl))
  f49 := ⟨Tryz.f166.name, by decide, Tryz.func166.trans (congrArg some (by kernel_rfl))⟩
  f50 := ⟨Tryz.f167.name, by decide, Tryz.func167.trans (congrArg some (by kernel_rfl))⟩
  f57 := ⟨Tryz.f197.name, by decide, Tryz.func197.trans (congrArg some (by kernel_rfl))⟩
  t0 := Tryz.underlying0
  a0 := Tryz.isAgg0
  z0 := Tryz.sizeOf0
  v0 := Tryz.zeroValue0
  t3 := Tryz.underlying3
  a3 := Tryz.isAgg3
  z3 := Tryz.sizeOf3
  v3 := Tryz.zeroValue3
  t4 := Tryz.underlying4
  a4 := Tryz.isAgg4
  z4 := Tryz.sizeOf4
  v4 := Tryz.zeroValue4
  t5 := Tryz.underlying5
  a5 := Tryz.isAgg5
  z5 := Tryz.sizeOf5
  v5 := Tryz.zeroValue5
  t9 := Tryz.underlying9
  a9 := Tryz.isAgg9
  z9 := Tryz.sizeOf9
  v9 := Tryz.zeroValue9
  t22 := Tryz.underlying24
  a22 := Tryz.isAgg24
  z22 := Tryz.sizeOf24
  v22 := Tryz.zeroValue24
  t25 := Tryz.underlying30
  a25 := Tryz.isAgg30
  z25 := Tryz.sizeOf30
  v25 := Tryz.zeroValue30
  t39 := Tryz.underlying109
  a39 := Tryz.isAgg109
  z39 := Tryz.sizeOf109
  v39 := Tryz.zeroValue109
  t45 := Tryz.underlying146
  a45 := Tryz.isAgg146
  z45 := Tryz.sizeOf146
  v45 := Tryz.zeroValue146
  t46 := Tryz.underlying147
  a46 := Tryz.isAgg147
  z46 := Tryz.sizeOf147
  v46 := Tryz.zeroValue147
  t50 := Tryz.underlying151
  a50 := Tryz.isAgg151
  z50 := Tryz.sizeOf151
  v50 := Tryz.zeroValue151
  t53 := Tryz.underlying154
  a53 := Tryz.isAgg154
  z53 := Tryz.sizeOf154
  v53 := Tryz.zeroValue154
  t55 := Tryz.underlying156
  a55 := Tryz.isAgg156
  z55 := Tryz.sizeOf156
  v55 := Tryz.zeroValue156
  t66 := Tryz.underlying176
  a66 := Tryz.isAgg176
  z66 := Tryz.sizeOf176
  v66 := Tryz.zeroValue176
  t70 := Tryz.underlying180
  a70 := Tryz.isAgg180
  z70 := Tryz.sizeOf180
  v70 := Tryz.zeroValue180
  t76 := Tryz.underlying187
  a76 := Tryz.isAgg187
  z76 := Tryz.sizeOf187
  v76 := Tryz.zeroValue187
  t77 := Tryz.underlying188
  a77 := Tryz.isAgg188
  z77 := Tryz.sizeOf188
  v77 := Tryz.zeroValue188 }
end Go.Proofs
namespace Go.Proofs.YtimgocfkogebmaaGreatDoor
open Go.RowKit
set_option linter.unusedVariables false
set_option linter.unusedSimpArgs false
instance : Inhabited AlD := ⟨al0⟩
theorem alsort_is (l : List AlD) : (l.mergeSort fun x y => !(ltOf cmpA) y x) = sortC cmpA l := by
  have hO := cmA.swo
  have h := List.pairwise_mergeSort (le := fun x y => !(ltOf cmpA) y x) (fun a b e h1 h2 => by
    simp only [Bool.not_eq_true'] at *
    exact hO.ntrans e b a h2 h1) (fun a b => by
    simp only [Bool.or_eq_true, Bool.not_eq_true']
    cases h : ltOf cmpA b a
    · exact .inl rfl
    · right
      cases h2 : ltOf cmpA a b
      · rfl
      · have := hO.trans a b a h2 h
        rw [hO.irrefl] at this
        cases this) l
  refine sortC_is cmA (List.mergeSort_perm _ _) (h.imp fun {a b} hab => ?_)
  have a1 := cmA.anti a b
  unfold ltOf at hab
  simp at hab
  omega
theorem sortA_len (l : List AlD) : (sortC cmpA l).length = l.length := (sortC_perm cmpA l).length_eq
def AlGives (w : World) (l : List AlD) (e : Ending) (w' : World) : Prop := ∃ a c, e = .returned (.slice a l.length c) ∧ RO alC w' a l.length c l ∧ Below w.heap.size w w'
def AlOwn (w : World) (l : List AlD) (e : Ending) (w' : World) : Prop := ∃ v, e = .returned v ∧ w'.ownsRow w.heap.size 23 6 v l.length (alcells l) ∧ Below w.heap.size w w'
set_option maxRecDepth 100000 in
set_option maxHeartbeats 1000000 in
theorem aclone_any (a : Option Addr) (n c : Nat) (l : List AlD) (w : World) (h : RO alC w a n c l) (hn : n ≤ 1000000) : Calls Tryz.prog 39 #[.slice a n c] w (AlOwn w l) := by
  have hlen := h.len
  cases a with
  | none =>
    have hl : l = [] := by
      rcases h.sees with e | ⟨b, off, e, _⟩
      · have h1 := congrArg List.length e
        rw [flat_len alC_len] at h1
        simp at h1
        exact List.length_eq_zero_iff.1 (by omega)
      · cases e
    subst hl
    obtain rfl : n = 0 := hlen
    have hq := fun W => Lib.run_eql_slice_nil_nil (P := Tryz.prog) W (t := 24) (e := 23) 0 c Tryz.underlying24
    clear h
    go_enter Tryz.func39, Tryz.ntmps39
    go_wp2
    go_ret
    exact ⟨_, rfl, own_al_nil w _, Below.refl _ _⟩
  | some ad =>
    obtain ⟨i0, z0, hi, hz, h6, h72, hz6⟩ := infoAlZ
    have hb1 := Lib.hid (box_below w #[] 23)
    have hs := Lib.hid ((h.sees.below hb1.out).mono hb1.out.size)
    have hro : Hid ((w.alloc (.cells #[] 23)).ownsRow w.heap.size 23 6 (.slice (some ⟨w.heap.size, 0, none⟩) 0 0) 0 []) := Lib.hid (own_cells w 23 6 0 #[] (by simp) (by simp [maxLen]))
    have hfl : Hid ((alcells l).length = n * 6) := Lib.hid (by rw [alcells_len, hlen])
    have hone : Hid (∀ u ∈ alcells l, u.oneCell' = true) := Lib.hid (fun u hu => alcells_one hu)
    have hs' : Hid (SeesC (w.alloc (.cells #[] 23)).heap.size (w.alloc (.cells #[] 23)) (some ad) (alcells l)) := hs
    have hlen' := Lib.hid hlen
    clear h hlen hs
    generalize hcse : alcells l = cs at *
    have hcse' := Lib.hid hcse
    clear hcse
    have hq := fun W => Lib.run_eql_slice_some_nil (P := Tryz.prog) W (t := 24) (e := 23) ad n c Tryz.underlying24
    go_enter Tryz.func39, Tryz.ntmps39
    go_wp2_with (at_builtin; go_loud (refine wpList_append_cellsB _ rfl (.tmp 5) (.tmp 6) 24 rfl w 23 i0 z0 6 72 Tryz.underlying24 hi hz h6 h72 hz6 (by decide) _ 0 [] hro.out hb1.out _ (some ad) n c cs hfl.out hs'.out hone.out rfl rfl (by simp [maxLen]; omega) (by omega) ?_); intro v3 w3 own3 b3; simp only [List.nil_append, Nat.zero_add] at own3)
    go_ret
    exact ⟨v3, rfl, by rw [← hlen'.out, hcse'.out]; exact own3, b3⟩
theorem below_of {X : List Nat} {B : Nat} {w w' : World} (h : BelowE X B w w') (hx : ∀ x ∈ X, B ≤ x) : Below B w w' := ⟨h.os, h.tape, h.output, h.size, fun k hk => h.block k hk (fun hm => by have := hx k hm; omega)⟩
theorem sortK_belowE (w : World) (g off m : Nat) (d : Array AlD) (os : Array Obj) : BelowE [g] w.heap.size w (sortWorldK alC 6 w g off m d os) := by
  unfold sortWorldK Go.Sort.putRowK
  refine ⟨rfl, rfl, rfl, ?_, fun k hk hx => ?_⟩
  · rw [Go.Sort.size_grow]
    simp [Go.Sort.putRow, Go.Sort.mapBlock, Go.Sort.ahead]
  · rw [Go.Sort.heap_grow_old]
    · have hne : g ≠ k := fun e => hx (by simp [e])
      simp [Go.Sort.putRow, Go.Sort.mapBlock, Go.Sort.ahead, Array.getElem?_modify, hne]
    · simpa [Go.Sort.putRow, Go.Sort.mapBlock, Go.Sort.ahead] using hk
theorem flatK_at (l : List AlD) (t : Nat) (ht : t < l.length * 6) : (alcells l)[t]? = some (Go.Sort.flatK alC 6 l.toArray)[t]! := by
  rw [Go.Sort.get_flatK _ _ _ _ (by simpa using ht)]
  have e := flat_at alC_len l (t / 6) (t % 6) (Nat.mod_lt _ (by decide))
  rw [Nat.div_add_mod' t 6] at e
  have hq : t / 6 < l.length := by omega
  unfold alcells
  rw [e, getElem!_pos _ (t / 6) (by simpa using hq)]
  simp only [hq, List.getElem?_eq_getElem, Option.bind_some, List.getElem_toArray]
  have h6 : t % 6 < (alC l[t / 6]).length := by rw [alC_len]; omega
  rw [getElem!_pos (alC l[t / 6]) (t % 6) h6, List.getElem?_eq_getElem h6]
set_option maxHeartbeats 1000000 in
theorem alsort_any (v : Value) (l : List AlD) (w0 w : World) (h : w.ownsRow w0.heap.size 23 6 v l.length (alcells l)) (hb : Below w0.heap.size w0 w) (hn : l.length ≤ 1000000) :
    Calls Tryz.prog 40 #[v, .func (.func 11) #[] #[]] w fun e w' => e = .returned (.tuple #[]) ∧ (∃ a c, v = .slice a l.length c ∧ RO alC w' a l.length c (sortC cmpA l)) ∧ Below w0.heap.size w0 w' := by
  by_cases hn0 : l.length = 0
  · have hl : l = [] := List.length_eq_zero_iff.1 hn0
    subst hl
    obtain ⟨a, c, rfl, hro⟩ := ro_own h
    have q := AnyF.slices_SortFunc_none Tryz.sortAl a c (.func (.func 11) #[] #[]) w
    refine Calls.mono q ?_
    rintro e w' ⟨rfl, rfl⟩
    exact ⟨rfl, ⟨a, c, rfl, hro⟩, hb⟩
  have eg : ∀ args w, (callFunc 11 args).run Tryz.prog w = .ok (.enter 11 args) w := enters_of Tryz.func11 (by kernel_rfl) rfl
  have hl6 := alcells_len l
  rcases h.2 with ⟨_, h0⟩ | ⟨g, cap, cur, rfl, hbg, hgg, hnc, hcm, hcs, htake⟩
  · exact absurd h0 hn0
  have hgl : g < w.heap.size := (Array.getElem?_eq_some_iff.1 hgg).1
  have hH : Go.Sort.HoldsK alC 6 w g 0 l.toArray := by
    intro j hj
    rw [Go.Sort.size_flatK] at hj
    have hj' : j < l.length * 6 := by simpa using hj
    have e := flatK_at l j hj'
    rw [← htake] at e
    have hcur : cur[j]? = some (Go.Sort.flatK alC 6 l.toArray)[j]! := by
      rw [List.getElem?_take, if_pos hj'] at e
      simpa using e
    have H : Holds w g 23 cur := hgg
    rw [Nat.zero_add]
    exact ⟨(H.cell j).trans hcur, H.free j⟩
  have hcmp : CmpLays Tryz.prog 11 #[] alC 6 cmpA g 0 l.toArray.size w := by
    intro m os dk hs x y
    exact (acmpg_any x y _).mono fun e w' h => h
  have hS := AnyQ.slices_SortFunc_total Tryz.sortAl 6 (fun w => by kernel_rfl) (fun w => by kernel_rfl) alC alC_len (fun x v hv => alcells_one (l := [x]) (by simpa [alcells] using hv)) cmpA cmA.swo 11 #[] g 0 cap l.toArray w eg hcmp hH hgl (by simp; omega) cmA.tot
  have hsz : l.toArray.size = l.length := by simp
  rw [hsz, List.toList_toArray, alsort_is] at hS
  refine Calls.mono hS ?_
  rintro e w' ⟨rfl, m, os, rfl⟩
  have hE := sortK_belowE w g 0 m (sortC cmpA l).toArray os
  refine ⟨rfl, ⟨some ⟨g, 0, none⟩, cap, rfl, ⟨(sortA_len l).symm, hnc, hcm, .inr ⟨g, 0, rfl, Nat.lt_of_lt_of_le hgl hE.size, fun i v hv => ?_⟩⟩⟩, hb.trans (below_of (hE.mono hb.size) (by intro x hx; simp at hx; omega))⟩
  have hi : i < (sortC cmpA l).length * 6 := by
    have := (List.getElem?_eq_some_iff.1 hv).1
    rwa [flat_len alC_len] at this
  have e := flatK_at (sortC cmpA l) i hi
  unfold alcells at e
  rw [e] at hv
  injection hv with hv
  have hH2 : Go.Sort.HoldsK alC 6 (sortWorldK alC 6 w g 0 m (sortC cmpA l).toArray os) g 0 (sortC cmpA l).toArray := holdsK_sortWorldK_c alC 6 w g 0 l.toArray (sortC cmpA l).toArray m os hH hgl (by simp [sortA_len])
  have q := (hH2 i (by rw [Go.Sort.size_flatK]; simpa using hi)).1
  rw [q]
  exact congrArg some hv
set_option maxRecDepth 100000 in
theorem asort_any (a : Option Addr) (n c : Nat) (l : List AlD) (w : World) (h : RO alC w a n c l) (hn : n ≤ 1000000) : Calls Tryz.prog 14 #[.slice a n c] w (AlGives w (sortC cmpA l)) := by
  have q1 := Lib.hid (aclone_any a n c l w h hn)
  have hln : l.length ≤ 1000000 := by rw [← h.len]; exact hn
  have q2 := Lib.hid (fun v W hW hb => alsort_any v l w W hW hb hln)
  clear h
  go_enter Tryz.func14, Tryz.ntmps14
  go_wp2_with fail
  with_reducible refine q1.out.mono ?_
  rintro e w1 ⟨v, rfl, own, b1⟩
  have qq := Lib.hid (q2.out v w1 own b1)
  clear q1 q2 own b1
  go_wp2_with fail
  with_reducible refine qq.out.mono ?_
  rintro e w2 ⟨rfl, ⟨a2, c2, rfl, hro⟩, b2⟩
  clear qq
  go_wp2
  go_ret
  exact ⟨a2, c2, by rw [sortA_len]; rfl, by rw [sortA_len]; exact hro, b2⟩
end Go.Proofs.YtimgocfkogebmaaGreatDoor
namespace Go.Proofs.YtimgocfkogebmaaGreatDoor
open Go.Lib
set_option linter.unusedVariables false
def clip (n : Int) : Int := if 1099511627776 < n then 1099511627776 else if n < -1099511627776 then -1099511627776 else n
theorem clip_in (n : Int) : -1099511627776 ≤ clip n ∧ clip n ≤ 1099511627776 := by unfold clip; split <;> (try split) <;> omega
def infT : List UInt8 := [105, 110, 102]
def ninfT : List UInt8 := [45, 105, 110, 102]
def showV (v : Int) : List UInt8 := if v = 1099511627776 then infT else if v = -1099511627776 then ninfT else itoa v
def isDig (c : UInt8) : Prop := 48 ≤ c.toNat ∧ c.toNat ≤ 57
instance (c : UInt8) : Decidable (isDig c) := by unfold isDig; infer_instance
def val10 (l : List UInt8) : Nat := l.foldl (fun a c => 10 * a + (c.toNat - 48)) 0
theorem val10_snoc (l : List UInt8) (c : UInt8) : val10 (l ++ [c]) = 10 * val10 l + (c.toNat - 48) := by simp [val10]
theorem val10_app_le (l r : List UInt8) : val10 l ≤ val10 (l ++ r) := by
  induction r generalizing l with
  | nil => simp
  | cons c r ih =>
    have h1 := ih (l ++ [c])
    rw [val10_snoc] at h1
    rw [show l ++ c :: r = l ++ [c] ++ r by simp]
    omega
def canon (l : List UInt8) : Prop := l ≠ [] ∧ (∀ c ∈ l, isDig c) ∧ (l.head? = some 48 → l = [48])
instance (l : List UInt8) : Decidable (canon l) := by unfold canon; infer_instance
theorem dig_back {c : UInt8} (h : isDig c) : UInt8.ofNat (48 + (c.toNat - 48)) = c := by
  rw [show 48 + (c.toNat - 48) = c.toNat by have := h.1; omega]
  exact UInt8.ofNat_toNat
theorem dig_of {d : Nat} (h : d < 10) : isDig (UInt8.ofNat (48 + d)) ∧ (UInt8.ofNat (48 + d)).toNat - 48 = d := by
  have e : (UInt8.ofNat (48 + d)).toNat = 48 + d := by
    rw [UInt8.toNat_ofNat']; omega
  unfold isDig
  rw [e]; omega
theorem val10_pos {l : List UInt8} (h0 : l ≠ []) (hd : ∀ c ∈ l, isDig c) (hh : l.head? ≠ some 48) : 0 < val10 l := by
  cases l with
  | nil => exact absurd rfl h0
  | cons c r =>
    have h1 := val10_app_le [c] r
    have hc := hd c (by simp)
    have : c.toNat ≠ 48 := by
      intro e
      apply hh
      simp only [List.head?_cons, Option.some.injEq]
      apply UInt8.toNat_inj.1
      rw [e]; rfl
    have e2 : val10 [c] = c.toNat - 48 := by simp [val10]
    have := hc.1
    rw [show c :: r = [c] ++ r by rfl]
    omega
theorem canon_show {l : List UInt8} (h : canon l) : decDigits (val10 l) = l := by
  suffices H : ∀ (n : Nat) (l : List UInt8), l.length = n → canon l → decDigits (val10 l) = l from H _ l rfl h
  intro n
  induction n with
  | zero => intro l hl hc; exact absurd (List.eq_nil_of_length_eq_zero hl) hc.1
  | succ n ih =>
    intro l hl hc
    obtain ⟨p, c, rfl⟩ : ∃ p c, l = p ++ [c] := ⟨l.dropLast, l.getLast hc.1, (List.dropLast_concat_getLast hc.1).symm⟩
    have hp : p.length = n := by simp at hl; omega
    have hcd : isDig c := hc.2.1 c (by simp)
    have hlt : c.toNat - 48 < 10 := by have := hcd.1; have := hcd.2; omega
    rw [val10_snoc]
    by_cases hpe : p = []
    · subst hpe
      rw [show val10 [] = 0 from rfl, Nat.mul_zero, Nat.zero_add, decDigits, dif_pos hlt, dig_back hcd]
      rfl
    · have hph : p.head? ≠ some 48 := by
        intro e
        have h2 := hc.2.2 (by rw [List.head?_append, e]; rfl)
        have h3 := congrArg List.length h2
        simp at h3
        exact hpe h3
      have hpd : ∀ x ∈ p, isDig x := fun x hx => hc.2.1 x (by simp [hx])
      have hpos := val10_pos hpe hpd hph
      rw [decDigits, dif_neg (by omega), show (10 * val10 p + (c.toNat - 48)) / 10 = val10 p by omega, show (10 * val10 p + (c.toNat - 48)) % 10 = c.toNat - 48 by omega, dig_back hcd]
      rw [ih p hp ⟨hpe, hpd, fun e => absurd e hph⟩]
theorem show_val (u : Nat) : val10 (decDigits u) = u ∧ canon (decDigits u) ∧ (0 < u → (decDigits u).head? ≠ some 48) := by
  induction u using Nat.strongRecOn with
  | ind u ih =>
    by_cases h : u < 10
    · rw [decDigits, dif_pos h]
      have := dig_of h
      refine ⟨by simpa [val10] using this.2, ⟨by simp, by simpa using this.1, ?_⟩, ?_⟩
      · intro e; simp at e; simp [e]
      · intro h0 e
        simp only [List.head?_cons, Option.some.injEq] at e
        rw [e] at this
        simp at this
        omega
    · obtain ⟨h1, h2, h3⟩ := ih (u / 10) (by omega)
      have hd := dig_of (d := u % 10) (by omega)
      rw [decDigits, dif_neg h]
      have hh : (decDigits (u / 10) ++ [UInt8.ofNat (48 + u % 10)]).head? ≠ some 48 := by
        intro e
        rw [List.head?_append] at e
        have h4 := h3 (by omega)
        cases hx : (decDigits (u / 10)).head? with
        | none => rw [List.head?_eq_none_iff] at hx; exact h2.1 hx
        | some x => rw [hx] at e h4; simp at e; exact h4 (by rw [e])
      refine ⟨by rw [val10_snoc, h1, hd.2]; omega, ⟨by simp, ?_, fun e => absurd e hh⟩, fun _ => hh⟩
      intro c hc
      rcases List.mem_append.1 hc with hc | hc
      · exact h2.2.1 c hc
      · rw [List.mem_singleton] at hc; subst hc; exact hd.1
theorem canon_len {l : List UInt8} (h : canon l) (hl : val10 l < 1099511627776) : l.length ≤ 13 := by
  have h1 : l = decDigits (val10 l) := (canon_show h).symm
  rw [h1, decDigits_length]
  have : ∀ k u, u < 10 ^ (k + 1) → nDigits u ≤ k + 1 := by
    intro k
    induction k with
    | zero => intro u hu; rw [nDigits_small (by omega)]; omega
    | succ k ih =>
      intro u hu
      by_cases h10 : u < 10
      · rw [nDigits_small h10]; omega
      · have := ih (u / 10) (by rw [Nat.pow_succ] at hu; omega)
        rw [nDigits, dif_neg h10]; omega
  have := this 12 (val10 l) (by omega)
  omega
end Go.Proofs.YtimgocfkogebmaaGreatDoor
namespace Go.Proofs.YtimgocfkogebmaaGreatDoor
open Go.RowKit
set_option linter.unusedVariables false
theorem clip_any (n : Int) (w : World) : Calls Tryz.prog 154 #[.int .i64 n] w fun e w' => e = .returned (.int .i64 (clip n)) ∧ w = w' := by
  have hf : Hid (clip n = if 1099511627776 < n then 1099511627776 else if n < -1099511627776 then -1099511627776 else n) := Lib.hid rfl
  generalize clip n = F at *
  go_enter Tryz.func154, Tryz.ntmps154
  go_wp2
  all_goals (go_ret; refine ⟨ret_int ?_, rfl⟩; rw [hf.out]; clear hf; grind)
end Go.Proofs.YtimgocfkogebmaaGreatDoor
namespace Go.Proofs.YtimgocfkogebmaaGreatDoor
open Go.RowKit
set_option linter.unusedVariables false
def Tab (w : World) : Prop := Lib.TabIs Tryz.prog w "internal/strconv.uint64pow10" .u64 Lib.pow10Tab
theorem globalTab : (Tryz.prog.globalNamed "internal/strconv.uint64pow10").isSome = true := by kernel_rfl
theorem Tab.on {w w' : World} (h : Tab w) (hb : Below w.heap.size w w') : Tab w' := by
  obtain ⟨g, hg⟩ := Option.isSome_iff_exists.1 globalTab
  exact Joins.tab_stays hg h hb (Nat.le_refl _)
theorem below_drewn (w : World) (q : Nat) (os : Array Obj) : Below w.heap.size w (Sort.grow (w.drewN q) os) :=
  ⟨rfl, rfl, rfl, by simp [Sort.grow], fun i hi => by
    show ((w.drewN q).heap ++ os)[i]? = _
    rw [Array.getElem?_append_left (by show i < w.heap.size; omega)]
    rfl⟩
end Go.Proofs.YtimgocfkogebmaaGreatDoor
namespace Go.Proofs.YtimgocfkogebmaaGreatDoor
open Go.RowKit
set_option linter.unusedVariables false
def strB (l : List UInt8) : ByteArray := ⟨l.toArray⟩
theorem itoa_any (n : Int) (h0 : -9223372036854775808 ≤ n) (h1 : n ≤ 9223372036854775807) (w : World) (ht : Tab w) : Calls Tryz.prog 207 #[.int .i64 n] w (Gives (.string (strB (Lib.itoa n))) w) := by
  refine (Tryz.strconv_Itoa n h0 h1 w ht).mono ?_
  rintro e w' ⟨rfl, k, os, rfl⟩
  exact ⟨rfl, below_drewn w k os⟩
theorem show_max {v : Int} (h : v = 1099511627776) : showV v = infT := by subst h; decide
theorem show_min {v : Int} (h : v = -1099511627776) : showV v = ninfT := by subst h; decide
theorem show_mid {v : Int} (h : ¬ v = 1099511627776) (h2 : ¬ v = -1099511627776) : showV v = Lib.itoa v := by unfold showV; rw [if_neg h, if_neg h2]
theorem show_any (n : Int) (w : World) (ht : Tab w) : Calls Tryz.prog 202 #[.int .i64 n] w (Gives (.string (strB (showV (clip n)))) w) := by
  have hc := Lib.hid (clip_any n)
  have hi := clip_in n
  generalize clip n = v at *
  have hit := Lib.hid (fun w ht => itoa_any v (by omega) (by omega) w ht)
  by_cases h1 : v = 1099511627776
  · rw [show_max h1]
    go_enter Tryz.func202, Tryz.ntmps202
    go_wp2_with fail
    refine (hc.out _).mono ?_
    rintro e w' ⟨rfl, rfl⟩
    go_wp2
    go_ret
    exact ⟨rfl, Below.refl _ _⟩
  · have d1 : (v == 1099511627776) = false := by simp [h1]
    by_cases h2 : v = -1099511627776
    · rw [show_min h2]
      go_enter Tryz.func202, Tryz.ntmps202
      go_wp2_with fail
      refine (hc.out _).mono ?_
      rintro e w' ⟨rfl, rfl⟩
      go_wp2
      go_ret
      exact ⟨rfl, Below.refl _ _⟩
    · have d2 : (v == -1099511627776) = false := by simp [h2]
      rw [show_mid h1 h2]
      generalize Lib.itoa v = T at *
      go_enter Tryz.func202, Tryz.ntmps202
      go_wp2_with fail
      refine (hc.out _).mono ?_
      rintro e w' ⟨rfl, rfl⟩
      go_wp2_with fail
      refine (hit.out _ ht).mono ?_
      rintro e w' ⟨rfl, hb⟩
      go_wp2
      go_ret
      exact ⟨rfl, hb⟩
theorem strB_size (l : List UInt8) : (strB l).size = l.length := by simp [strB, ByteArray.size]
end Go.Proofs.YtimgocfkogebmaaGreatDoor
