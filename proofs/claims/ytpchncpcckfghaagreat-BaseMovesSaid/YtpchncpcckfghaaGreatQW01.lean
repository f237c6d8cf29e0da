/-
  BaseMoves: what its walk wants behind the texts of BaseOf's claim. No condition of its own.
-/
import Derived.Test.YtpchncpcckfghaaGreatQO01
import Derived.Test.YtpchncpcckfghaaGreatQO02
import Derived.Test.YtpchncpcckfghaaGreatQO03
import Derived.Test.YtpchncpcckfghaaGreatQO04
import Derived.Test.YtpchncpcckfghaaGreatQO05
import Derived.Test.YtpchncpcckfghaaGreatQO06
import Derived.Test.YtpchncpcckfghaaGreatQO07
import Derived.Test.YtpchncpcckfghaaGreatQO08
import Derived.Test.YtpchncpcckfghaaGreatQO09
import Derived.Test.YtpchncpcckfghaaGreatQO10
import Derived.WalkKit
import Derived.LoopTactic
import Derived.Outline
import Derived.Lib.Hide
import Derived.Laws.BytesArg
import Derived.Laws.AppendOwnNone
import Derived.Deep.Draws
import Derived.Deep.QuietTactic
import Derived.BigQuiet
import Derived.WalkSmall
import Derived.Maps.AppendAt
import Derived.Lib.ConvBytes
import Derived.Deep.Slices
import Derived.Deep.Fields
import Derived.ChangeSame
import Derived.SizedLaws
import Derived.Sort.Walk0
import Derived.Lib.SlicesCompact
import Derived.Test.YtpchncpcckfghaaGreatRows
import Derived.IntWalk
import Derived.Deep.RegionHeld3
import Derived.Deep.DrawnRows
import Derived.Laws.Cover1
import Derived.Laws.CopyRow
import Derived.Laws.Tables
import Derived.Shelf.GgClosure.StringsIndexFuncTop
import Derived.Lib.RuneCount
import Derived.Shelf.Strings.Builder1
import Derived.Shelf.Small.Bits
import Derived.Shelf.Small.Wraps
import Derived.Shelf.Strings.BuilderF
import Derived.Shelf.Strings.BuilderK
import Derived.Shelf.Strconv.Itoa0
import Derived.Shelf.GgClosure.StringsIndexFunc
import Derived.Ground.GgwProg
import Derived.Shelf.GgClosure.StringsRunes
import Derived.Shelf.Strings.FuncGrows
import Derived.Shelf.Strings.BuilderCap
import Derived.Ground.Names2Prog
import Derived.Shelf.Slices.SearchI
import Derived.Test.YtpchncpcckfghaaGreatProg
import Derived.Laws.ResultCell
import Derived.Deep.Cut
import Derived.ArgAppend
import Derived.Shelf.SlSortCmp.Kit1
import Derived.Sort.WalkA
import Derived.Sort.WalkB3
import Derived.Deep.LoopGhost
import Derived.RangeFuncNested
import Derived.RangeFuncBound
import Derived.RangeFuncCalls
import Derived.RangeFuncLeaves
import Derived.RangeFuncBox
import Derived.Shelf.Abstract
import Derived.OwnWalkIn
import Derived.TacticsInMore
import Derived.LoopNIn
import Derived.LoopIn
import Derived.Shelf.SlSortCmp.NoneTotal
import Derived.WalkMore
import Derived.Laws.Bits64b
import Derived.Laws.BitsAllLaws
import Derived.WalkSpells
import Derived.Lib.BufferMore
import Derived.Sort.Grow
import Derived.Ground.SlsfProg
import Derived.Lib.FrozenHead
import Derived.Maps.OwnSet
import Derived.Sort.WalkB2
import Derived.Sort.Walk7a
import Derived.Sort.WalkC4
import Derived.Sort.WalkA6
import Derived.Sort.AssemblyPlain
namespace Go.Proofs.YtpchncpcckfghaaGreat
open Go.RowKit
set_option linter.unusedVariables false
set_option linter.unusedSimpArgs false
structure TwoX {α : Type} (enc : α → List Value) (e : TypeId) (k : Nat) (base : Nat) (w : World) (v1 v2 : Value) (l1 l2 : List α) : Prop where
  o1 : w.ownsRow base e k v1 l1.length (l1.flatMap enc)
  o2 : w.ownsRow base e k v2 l2.length (l2.flatMap enc)
  b : base ≤ w.heap.size
  ne : ∀ q, v1.ownBlock = some q → v2.ownBlock = some q → False
theorem TwoX.symm {α : Type} {enc : α → List Value} {e : TypeId} {k base : Nat} {w : World} {v1 v2 : Value} {l1 l2 : List α} (h : TwoX enc e k base w v1 v2 l1 l2) : TwoX enc e k base w v2 v1 l2 l1 := ⟨h.o2, h.o1, h.b, fun q a c => h.ne q c a⟩
theorem TwoX.nil {α : Type} (enc : α → List Value) (e : TypeId) (k : Nat) (w : World) : TwoX enc e k w.heap.size w (.slice none 0 0) (.slice none 0 0) [] [] := ⟨own_nil _ _ _ _, own_nil _ _ _ _, Nat.le_refl _, by intro q h; cases h⟩
theorem TwoX.below {α : Type} {enc : α → List Value} {e : TypeId} {k base : Nat} {w W : World} {v1 v2 : Value} {l1 l2 : List α} (h : TwoX enc e k base w v1 v2 l1 l2) (hb : Below w.heap.size w W) : TwoX enc e k base W v1 v2 l1 l2 :=
  ⟨own_below h.o1 hb, own_below h.o2 hb, Nat.le_trans h.b hb.size, h.ne⟩
theorem TwoX.belowE {α : Type} {enc : α → List Value} {e : TypeId} {k base : Nat} {w W : World} {v1 v2 : Value} {l1 l2 : List α} {X : List Nat} (h : TwoX enc e k base w v1 v2 l1 l2) (hb : BelowE X w.heap.size w W) (hX : ∀ x ∈ X, x < base) : TwoX enc e k base W v1 v2 l1 l2 :=
  ⟨own_belowE h.o1 hb (fun q hq hx => by have := (h.o1.lt q hq).1; have := hX q hx; omega), own_belowE h.o2 hb (fun q hq hx => by have := (h.o2.lt q hq).1; have := hX q hx; omega), Nat.le_trans h.b hb.size, h.ne⟩
end Go.Proofs.YtpchncpcckfghaaGreat
namespace Go.Proofs.YtpchncpcckfghaaGreat
open Go.RowKit
set_option linter.unusedVariables false
set_option linter.unusedSimpArgs false
def Aloof (v1 v2 : Value) : Prop := ∀ q, v1.ownBlock = some q → v2.ownBlock = some q → False
theorem Aloof.symm {v1 v2 : Value} (h : Aloof v1 v2) : Aloof v2 v1 := fun q a b => h q b a
theorem aloof_nil (v : Value) : Aloof (.slice none 0 0) v := by intro q h; cases h
structure FourX {α : Type} (enc : α → List Value) (e : TypeId) (k : Nat) (base : Nat) (w : World) (v1 v2 v3 v4 : Value) (l1 l2 l3 l4 : List α) : Prop where
  o1 : w.ownsRow base e k v1 l1.length (l1.flatMap enc)
  o2 : w.ownsRow base e k v2 l2.length (l2.flatMap enc)
  o3 : w.ownsRow base e k v3 l3.length (l3.flatMap enc)
  o4 : w.ownsRow base e k v4 l4.length (l4.flatMap enc)
  b : base ≤ w.heap.size
  n12 : Aloof v1 v2
  n13 : Aloof v1 v3
  n14 : Aloof v1 v4
  n23 : Aloof v2 v3
  n24 : Aloof v2 v4
  n34 : Aloof v3 v4
variable {α : Type} {enc : α → List Value} {e : TypeId} {k base : Nat} {w W : World} {v1 v2 v3 v4 : Value} {l1 l2 l3 l4 : List α}
theorem FourX.nil (enc : α → List Value) (e : TypeId) (k : Nat) (w : World) : FourX enc e k w.heap.size w (.slice none 0 0) (.slice none 0 0) (.slice none 0 0) (.slice none 0 0) [] [] [] [] :=
  ⟨own_nil _ _ _ _, own_nil _ _ _ _, own_nil _ _ _ _, own_nil _ _ _ _, Nat.le_refl _, aloof_nil _, aloof_nil _, aloof_nil _, aloof_nil _, aloof_nil _, aloof_nil _⟩
theorem FourX.swap12 (h : FourX enc e k base w v1 v2 v3 v4 l1 l2 l3 l4) : FourX enc e k base w v2 v1 v3 v4 l2 l1 l3 l4 := ⟨h.o2, h.o1, h.o3, h.o4, h.b, h.n12.symm, h.n23, h.n24, h.n13, h.n14, h.n34⟩
theorem FourX.swap13 (h : FourX enc e k base w v1 v2 v3 v4 l1 l2 l3 l4) : FourX enc e k base w v3 v2 v1 v4 l3 l2 l1 l4 := ⟨h.o3, h.o2, h.o1, h.o4, h.b, h.n23.symm, h.n13.symm, h.n34, h.n12.symm, h.n24, h.n14⟩
theorem FourX.swap14 (h : FourX enc e k base w v1 v2 v3 v4 l1 l2 l3 l4) : FourX enc e k base w v4 v2 v3 v1 l4 l2 l3 l1 := ⟨h.o4, h.o2, h.o3, h.o1, h.b, h.n24.symm, h.n34.symm, h.n14.symm, h.n23, h.n12.symm, h.n13.symm⟩
theorem FourX.below (h : FourX enc e k base w v1 v2 v3 v4 l1 l2 l3 l4) (hb : Below w.heap.size w W) : FourX enc e k base W v1 v2 v3 v4 l1 l2 l3 l4 :=
  ⟨own_below h.o1 hb, own_below h.o2 hb, own_below h.o3 hb, own_below h.o4 hb, Nat.le_trans h.b hb.size, h.n12, h.n13, h.n14, h.n23, h.n24, h.n34⟩
theorem own_beyond {xs : List Value} {v : Value} {n : Nat} {X : List Nat} (h : w.ownsRow base e k v n xs) (hb : BelowE X w.heap.size w W) (hX : ∀ x ∈ X, x < base) : W.ownsRow base e k v n xs :=
  own_belowE h hb (fun q hq hx => by have := (h.lt q hq).1; have := hX q hx; omega)
theorem FourX.belowE {X : List Nat} (h : FourX enc e k base w v1 v2 v3 v4 l1 l2 l3 l4) (hb : BelowE X w.heap.size w W) (hX : ∀ x ∈ X, x < base) : FourX enc e k base W v1 v2 v3 v4 l1 l2 l3 l4 :=
  ⟨own_beyond h.o1 hb hX, own_beyond h.o2 hb hX, own_beyond h.o3 hb hX, own_beyond h.o4 hb hX, Nat.le_trans h.b hb.size, h.n12, h.n13, h.n14, h.n23, h.n24, h.n34⟩
theorem own_read (hk : ∀ x, (enc x).length = k) (h0 : 0 < k) {v : Value} {l : List α} (h : w.ownsRow base e k v l.length (l.flatMap enc)) : ∃ a c, v = .slice a l.length c ∧ RO enc w a l.length c l := by
  obtain ⟨a, c, rfl, p1, p2, p3⟩ := seesC_own h
  exact ⟨a, c, rfl, ⟨rfl, p1, p2, p3⟩⟩
theorem wp_append_fourX {P : Program} {t : TypeId} {bytes : Nat} {o : Oper} {a : Act} {K : Act → World → Prop} {Q : Exit → Act → World → Prop} (w : World) (s x : Operand)
    (hop : o.op = Op.call { callee := Callee.builtin Builtin.append, args := #[s, x], argTypes := #[t, t] })
    (i : TypeInfo) (z : Value) (ht : P.underlying t = some (.slice e)) (hi : P.info? e = some i) (hz : i.zero = some z) (hsize : i.size = k) (hby : i.bytes = bytes) (hzs : z.cells.size = k) (hk0 : 0 < k) (hk : ∀ x, (enc x).length = k) (hbs : bytes ≤ 200) (h1c : ∀ x, ∀ u ∈ enc x, u.oneCell' = true)
    (v1 v2 v3 v4 : Value) (l1 l2 l3 l4 : List α) (h : FourX enc e k base w v1 v2 v3 v4 l1 l2 l3 l4) (y : α) (A : Option Addr) (hS : SeesC w.heap.size w A (enc y))
    (hsv : a.eval s = v1) (hx : a.eval x = .slice A 1 1) (hn : l1.length ≤ 1000000)
    (hK : ∀ v' w', FourX enc e k base w' v' v2 v3 v4 (l1 ++ [y]) l2 l3 l4 → Below base w w' → K (a.put o.dst v') w') :
    o.wp P a w K Q := by
  have hbb : (l1.length + 1) * bytes ≤ 140737488355328 := by
    have : (l1.length + 1) * bytes ≤ 1000001 * 200 := Nat.mul_le_mul (by omega) hbs
    omega
  obtain ⟨v', w', hrun, g1, g2, g3⟩ := run_append_cellsB (P := P) w base t o.type e i z k bytes ht hi hz hsize hby hzs hk0 v1 l1.length (l1.flatMap enc) h.o1 w.heap.size A 1 1 (enc y) (by rw [hk]; omega) hS (fun u hu => h1c y u hu) (by unfold maxLen; omega) hbb h.b
  unfold Oper.wp
  simp [execOp, hop, resolve, invoke, builtin, hsv, hx, hrun, Result.andThen]
  have hks : ∀ v : Value, Aloof v1 v → v.ownBlock = none ∨ v.ownBlock ≠ v1.ownBlock := by
    intro v hv
    cases ee : v.ownBlock with
    | none => exact .inl rfl
    | some q => exact .inr fun e2 => hv q e2.symm ee
  have hal : ∀ {v : Value} {n : Nat} {xs : List Value}, Aloof v1 v → w.ownsRow base e k v n xs → Aloof v' v := by
    intro v n xs hv ho q e1 e2
    rcases g3 with g3 | g3
    · exact hv q (g3 ▸ e1) e2
    · rw [g3] at e1
      injection e1 with e1
      have := (ho.lt q e2).2
      omega
  have hbb2 : Below base w w' := (Below.refl _ _).grown g2 h.b fun q hq => (h.o1.lt q hq).1
  exact hK v' w' ⟨by rw [List.flatMap_append, List.length_append]; simpa using g1, h.o2.kept g2 (hks _ h.n12), h.o3.kept g2 (hks _ h.n13), h.o4.kept g2 (hks _ h.n14), Nat.le_trans h.b hbb2.size, hal h.n12 h.o2, hal h.n13 h.o3, hal h.n14 h.o4, h.n23, h.n24, h.n34⟩ hbb2
end Go.Proofs.YtpchncpcckfghaaGreat
namespace Go.Proofs.YtpchncpcckfghaaGreat
open Go.RowKit
set_option linter.unusedVariables false
set_option linter.unusedSimpArgs false
theorem alcells_snoc (l : List AlD) (x : AlD) : alcells (l ++ [x]) = alcells l ++ alC x := by simp [alcells]
theorem ro_own {w : World} {base : Nat} {e : TypeId} {v : Value} {n : Nat} {l : List AlD} (h : w.ownsRow base e 6 v n (alcells l)) : ∃ a c, v = .slice a n c ∧ RO alC w a n c l := by
  have hl := h.1
  have h2 := flat_len alC_len l
  unfold alcells at hl
  obtain ⟨a, c, rfl, h3, h4, h5⟩ := seesC_own h
  exact ⟨a, c, rfl, ⟨by omega, h3, h4, h5⟩⟩
theorem wpList_append_al {ops : Array Oper} {rest : List Oper} {o : Oper} {a : Act} {Q : Exit → Act → World → Prop} (w : World) (hg : o.guard = none) (s x : Operand) (hop : o.op = Op.call { callee := Callee.builtin Builtin.append, args := #[s, x], argTypes := #[23, 23] })
    (w0 : World) (v : Value) (n : Nat) (l : List AlD) (hown : w.ownsRow w0.heap.size 54 6 v n (alcells l)) (hb : Below w0.heap.size w0 w) (y : AlD)
    (hsv : a.eval s = v) (hg2 : Nat) (hx : a.eval x = .slice (some ⟨hg2, 0, none⟩) 1 1) (hh : hg2 = w.heap.size) (hn : n ≤ 1000000)
    (hK : ∀ v' w', w'.ownsRow w0.heap.size 54 6 v' (n + 1) (alcells (l ++ [y])) → Below w0.heap.size w0 w' → wpList Tryz.prog ops Q rest (a.put o.dst v') w') :
    wpList Tryz.prog ops Q (o :: rest) a (w.alloc (.cells #[.int .i64 y.kind, .int .i64 y.sev, .string y.fn, .string y.file, .int .i64 y.line, .string y.expr] 54)) := by
  subst hh
  obtain ⟨i0, z0, hi, hz, h6, h72, hz6⟩ := infoAlZ
  have hb1 := box_below w #[.int .i64 y.kind, .int .i64 y.sev, .string y.fn, .string y.file, .int .i64 y.line, .string y.expr] 54
  refine wpList_append_cellsB _ hg s x 23 hop w0 54 i0 z0 6 72 Tryz.underlying23 hi hz h6 h72 hz6 (by omega) v n (alcells l) (own_below hown hb1) (hb.trans (hb1.mono hb.size)) _ _ 1 1 (alC y) rfl (seesC_lit w 54 _) (fun u hu => alcells_one (l := [y]) (by simpa [alcells] using hu)) hsv hx (by unfold maxLen; omega) (by omega) ?_
  intro v' w' h1 h2
  exact hK v' w' (by rw [alcells_snoc]; exact h1) h2
theorem own_al_nil (w : World) (base : Nat) : w.ownsRow base 54 6 (.slice none 0 0) 0 (alcells []) := ⟨by simp [alcells], .inl ⟨rfl, rfl⟩⟩
end Go.Proofs.YtpchncpcckfghaaGreat
namespace Go.Proofs.YtpchncpcckfghaaGreat
set_option linter.unusedVariables false
set_option linter.unusedSimpArgs false
section Ranks
variable {α K R : Type} [DecidableEq K]
theorem rank_congr {c : α → α → Int} {key : α → K} {l m : List α} {d : α} {i : Nat} (hn : l.length = m.length) (h : ∀ j, j < l.length → aheadB c l d j i = aheadB c m d j i ∧ (key (l.getD j d) = key (l.getD i d) ↔ key (m.getD j d) = key (m.getD i d))) : rankL c key l d i = rankL c key m d i := by
  unfold rankL
  rw [← hn]
  apply List.countP_congr
  intro j hj
  rw [List.mem_range] at hj
  obtain ⟨h1, h2⟩ := h j hj
  simp only [Bool.and_eq_true, decide_eq_true_eq]
  rw [h1, h2]
end Ranks
end Go.Proofs.YtpchncpcckfghaaGreat
namespace Go.Proofs.YtpchncpcckfghaaGreat
open Go.RowKit Go.ChangeShapes Go.WideShapes Go.Deep
set_option linter.unusedVariables false
set_option linter.unusedSimpArgs false
def mkW (t : MkD) : Prop := (Lit.int .u64 t.f).wf = true ∧ t.note.size ≤ 140737488351232
def MkSl (w : World) (a : Option Addr) (n c : Nat) : Prop := ∃ l, RO mkC w a n c l ∧ (∀ s ∈ l, mkW s) ∧ n ≤ 5864062014805
theorem mk_bytes : Tryz.prog.bytesOf 40 = 24 := by kernel_rfl
theorem mk_row {H : Type} {enc : TypeId × Value → H} {w : World} {fuel : Nat} {r : Option Addr} {len cap : Nat} {x : DataW H × List MemPlace}
    (h : DataW.trod enc Tryz.prog w 0 (fun _ => true) true fuel 22 [.slice r len cap] = some x) (hR : Reach Tryz.prog 22 x.1) : MkSl w r len cap := by
  obtain ⟨h1, h2, h3⟩ := flat_row 2 [36, 9] Tryz.underlying22 (by kernel_rfl) (by kernel_rfl) (by kernel_rfl) (by decide) h hR
  have hn : len ≤ 5864062014805 := by
    rcases h3 with rfl | ⟨hb, _⟩
    · omega
    · rw [mk_bytes] at hb; omega
  obtain ⟨l, g1, g2⟩ := row_of (w := w) (r := r) (len := len) (cap := cap) mkC 2 mkC_len (by decide) mkW mk0 h1 h2 (by
    rcases h3 with rfl | ⟨_, b, off, rfl, hB, hc⟩
    · exact .inl rfl
    · refine .inr ⟨b, off, rfl, hB, fun i hi => ?_⟩
      obtain ⟨v0, y0, m0, c0, t0, r0⟩ := hc i hi 0 _ rfl
      obtain ⟨v1, y1, m1, c1, t1, r1⟩ := hc i hi 1 _ rfl
      obtain ⟨z0, e0', _, w0⟩ := DataW.trod_int Tryz.underlying36 t0
      obtain ⟨z1, e1, ez1, _⟩ := DataW.trod_string Tryz.underlying9 t1
      simp at e0' e1
      subst e0' e1
      subst ez1
      refine ⟨⟨z0, z1⟩, ⟨w0, reach_string r1⟩, fun j hj => ?_⟩
      match j, hj with
      | 0, _ => exact c0
      | 1, _ => exact c1)
  exact ⟨l, g1, g2, hn⟩
def bigMk (m : Int) (l : List MkD) : Bool := decide (m < l.length) || l.any fun t => decide (200 < t.note.size)
theorem bigMk_no {m : Int} {l : List MkD} (h : bigMk m l = false) : (l.length : Int) ≤ m ∧ ∀ t ∈ l, t.note.size ≤ 200 := by
  unfold bigMk at h
  simp only [Bool.or_eq_false_iff, decide_eq_false_iff_not, List.any_eq_false] at h
  refine ⟨by omega, fun t ht => ?_⟩
  have := h.2 t ht
  simp at this
  exact this
theorem bigMk_at {m : Int} {l : List MkD} {k : Nat} (hk : k < l.length) (h : 200 < (l.getD k mk0).note.size) : bigMk m l = true := by
  unfold bigMk
  rw [Bool.or_eq_true]
  right
  rw [List.any_eq_true]
  exact ⟨l[k], List.getElem_mem _, by simpa [List.getD, hk] using h⟩
theorem bigMk_small {m : Int} {l : List MkD} (hl : (l.length : Int) ≤ m) (h : ∀ t, t < l.length → (l.getD t mk0).note.size ≤ 200) : bigMk m l = false := by
  unfold bigMk
  rw [decide_eq_false (by omega), Bool.false_or, List.any_eq_false]
  intro x hx
  obtain ⟨i, hi, rfl⟩ := List.mem_iff_getElem.1 hx
  have := h i hi
  simp [List.getD, hi] at this
  simpa using this
theorem hasB_at {l : List MkD} {f : Int} {k : Nat} (hk : k < l.length) (h : (l.getD k mk0).f = f) : hasB l f = true := by
  unfold hasB
  rw [List.any_eq_true]
  exact ⟨l[k], List.getElem_mem _, by simpa [List.getD, hk] using h⟩
theorem hasB_no {l : List MkD} {f : Int} (h : ∀ t, t < l.length → (l.getD t mk0).f ≠ f) : hasB l f = false := by
  unfold hasB
  rw [List.any_eq_false]
  intro x hx
  obtain ⟨i, hi, rfl⟩ := List.mem_iff_getElem.1 hx
  have := h i hi
  simp [List.getD, hi] at this
  simpa using this
set_option maxRecDepth 100000 in
set_option maxHeartbeats 4000000 in
theorem bhas_any (w : World) (a : Option Addr) (n c : Nat) (l : List MkD) (f : Int) (hr : RO mkC w a n c l) : Calls Tryz.prog 20 #[.slice a n c, .int .u64 f] w (Tells (.bool (hasB l f)) w) := by
  have hm : (n : Int) ≤ 9223372036854775807 := by have := hr.max'; omega
  have hlen := Lib.hid hr.len
  have RW := Lib.hid hr
  have hat := Lib.hid (fun k hk h => hasB_at (l := l) (f := f) (k := k) hk h)
  have hno := Lib.hid (fun h => hasB_no (l := l) (f := f) h)
  generalize hasB l f = E at *
  clear hr
  go_enter Tryz.func20, Tryz.ntmps20
  go_wp2
  go_loop [5] (fun x => ∃ k : Nat, k ≤ n ∧ x = .int .i64 k ∧ Hid (∀ t, t < k → (l.getD t mk0).f ≠ f)) (fun x => n - (intOf x).toNat)
  case atStart => exact ⟨0, Nat.zero_le _, rfl, Lib.hid (fun t ht => by omega)⟩
  case round =>
    obtain ⟨k, hk, rfl, hal⟩ := hrel
    by_cases hlt : k < n
    · have hki : (k : Int) < (n : Int) := by omega
      obtain ⟨b, off, rfl, -, x0, -⟩ := mk_at RW.out hlt
      have hat' := Lib.hid (hat.out k (by rw [← hlen.out]; exact hlt))
      have hne : Hid ((l.getD k mk0).f ≠ f → ∀ t, t < k + 1 → (l.getD t mk0).f ≠ f) := Lib.hid (fun h t ht => by
        by_cases e : t = k
        · rw [e]; exact h
        · exact hal.out t (by omega))
      generalize (l.getD k mk0).f = s at *
      clear hal hat hno
      by_cases h3 : s = f
      · have h3i : (s == f) = true := by simpa using h3
        have hF := Lib.hid (hat'.out h3)
        clear hat' hne h3
        go_wp2
        go_ret
        exact ⟨ret_bool hF.out.symm, rfl⟩
      · have h3i : (s == f) = false := by simpa using h3
        have hn := Lib.hid (hne.out h3)
        clear hat' hne h3
        go_wp2
        go_round
        case rel => exact ⟨k + 1, by omega, by go_num, hn⟩
        case measure => simp [intOf]; omega
    · have hki : ¬ (k : Int) < (n : Int) := by omega
      have hF := Lib.hid (hno.out (fun t ht => hal.out t (by rw [← hlen.out] at ht; omega)))
      clear hal hat hno
      go_wp2
      go_ret
      exact ⟨ret_bool hF.out.symm, rfl⟩
set_option maxRecDepth 100000 in
set_option maxHeartbeats 4000000 in
theorem blarge_any (w : World) (a : Option Addr) (n c : Nat) (l : List MkD) (m : Int) (hr : RO mkC w a n c l) (hs : ∀ t ∈ l, mkW t) : Calls Tryz.prog 8 #[.slice a n c, .int .i64 m] w (Tells (.bool (bigMk m l)) w) := by
  have hm : (n : Int) ≤ 9223372036854775807 := by have := hr.max'; omega
  have hlen := Lib.hid hr.len
  by_cases h1i : m < (n : Int)
  · have hF : Hid (bigMk m l = true) := Lib.hid (by unfold bigMk; rw [decide_eq_true (show m < l.length by have := hlen.out; omega)]; rfl)
    generalize bigMk m l = E at *
    clear hr hs
    go_enter Tryz.func8, Tryz.ntmps8
    go_wp2
    go_ret
    exact ⟨ret_bool hF.out.symm, rfl⟩
  · have RW := Lib.hid hr
    have HS := Lib.hid hs
    have hat := Lib.hid (fun k hk h => bigMk_at (m := m) (l := l) (k := k) hk h)
    have hsm := Lib.hid (fun h => bigMk_small (m := m) (l := l) (by have := hlen.out; omega) h)
    generalize bigMk m l = E at *
    clear hr hs
    go_enter Tryz.func8, Tryz.ntmps8
    go_wp2
    go_loop [5] (fun x => ∃ k : Nat, k ≤ n ∧ x = .int .i64 k ∧ Hid (∀ t, t < k → (l.getD t mk0).note.size ≤ 200)) (fun x => n - (intOf x).toNat)
    case atStart => exact ⟨0, Nat.zero_le _, rfl, Lib.hid (fun t ht => by omega)⟩
    case round =>
      obtain ⟨k, hk, rfl, hal⟩ := hrel
      by_cases hlt : k < n
      · have hki : (k : Int) < (n : Int) := by omega
        obtain ⟨b, off, rfl, -, -, x1⟩ := mk_at RW.out hlt
        have hat' := Lib.hid (hat.out k (by rw [← hlen.out]; exact hlt))
        have hne : Hid ((l.getD k mk0).note.size ≤ 200 → ∀ t, t < k + 1 → (l.getD t mk0).note.size ≤ 200) := Lib.hid (fun h t ht => by
          by_cases e : t = k
          · rw [e]; exact h
          · exact hal.out t (by omega))
        have hsz : (l.getD k mk0).note.size ≤ 140737488351232 := (HS.out _ (by rw [show l.getD k mk0 = l[k]'(by rw [← hlen.out]; exact hlt) by simp [List.getD, show k < l.length by rw [← hlen.out]; exact hlt]]; exact List.getElem_mem _)).2
        generalize (l.getD k mk0).note = s at *
        clear hal hat
        by_cases h3 : 200 < s.size
        · have h3i : (200 : Int) < (s.size : Int) := by omega
          have hF := Lib.hid (hat'.out h3)
          clear hat' hne
          go_wp2
          go_ret
          exact ⟨ret_bool hF.out.symm, rfl⟩
        · have h3i : ¬ (200 : Int) < (s.size : Int) := by omega
          have hn := Lib.hid (hne.out (by omega))
          clear hat' hne
          go_wp2
          go_round
          case rel => exact ⟨k + 1, by omega, by go_num, hn⟩
          case measure => simp [intOf]; omega
      · have hki : ¬ (k : Int) < (n : Int) := by omega
        have hF := Lib.hid (hsm.out (fun t ht => hal.out t (by rw [← hlen.out] at ht; omega)))
        clear hal hat hsm
        go_wp2
        go_ret
        exact ⟨ret_bool hF.out.symm, rfl⟩
end Go.Proofs.YtpchncpcckfghaaGreat
namespace Go.Proofs.YtpchncpcckfghaaGreat
open Go.RowKit
set_option linter.unusedVariables false
set_option linter.unusedSimpArgs false
theorem bE_below {g b B : Nat} {V W : World} (h : BelowE [g] B V W) (hB : b ≤ B) (hg : b ≤ g) : Below b V W :=
  ((h.mono hB).less (Y := []) (fun x hx hlt => by simp at hx; omega)).none
theorem al_cells {w : World} {b off n c : Nat} {l : List AlD} (h : RO alC w (some ⟨b, off, none⟩) n c l) {i : Nat} (hi : i < n) :
    w.cell? ⟨b, off + i * 6, none⟩ = some (.int .i64 (l.getD i al0).kind) ∧ w.cell? ⟨b, off + i * 6 + 1, none⟩ = some (.int .i64 (l.getD i al0).sev) ∧ w.cell? ⟨b, off + i * 6 + 2, none⟩ = some (.string (l.getD i al0).fn) ∧ w.cell? ⟨b, off + i * 6 + 3, none⟩ = some (.string (l.getD i al0).file) ∧ w.cell? ⟨b, off + i * 6 + 4, none⟩ = some (.int .i64 (l.getD i al0).line) ∧ w.cell? ⟨b, off + i * 6 + 5, none⟩ = some (.string (l.getD i al0).expr) := by
  obtain ⟨b', off', e, -, hc⟩ := al_at h hi
  injection e with e
  injection e with e1 e2
  subst e1 e2
  exact hc
theorem own_slice {w : World} {base n k : Nat} {e : TypeId} {v : Value} {xs : List Value} (h : w.ownsRow base e k v n xs) : ∃ a m c, v = .slice a m c := by
  obtain ⟨a, c, h, -⟩ := seesC_own h
  exact ⟨a, _, c, h⟩
theorem alcells_one' (x : AlD) {u : Value} (hu : u ∈ alC x) : u.oneCell' = true := alcells_one (l := [x]) (by simpa [alcells] using hu)
end Go.Proofs.YtpchncpcckfghaaGreat
namespace Go.Proofs.YtpchncpcckfghaaGreat
set_option linter.unusedVariables false
set_option linter.unusedSimpArgs false
theorem fing_congr {l m : List AlD} (hn : l.length = m.length) (hk : ∀ i, i < l.length → keyA (l.getD i al0) = keyA (m.getD i al0)) (hc : ∀ i j, i < l.length → j < l.length → i ≠ j → cmpA (l.getD j al0) (l.getD i al0) = cmpA (m.getD j al0) (m.getD i al0)) : fingA l = fingA m := by
  apply List.ext_getElem
  · rw [fing_len, fing_len, hn]
  · intro i a b
    have hi : i < l.length := by rw [fing_len] at a; exact a
    have e1 := fing_at l hi
    have e2 := fing_at m (i := i) (by omega)
    rw [List.getD, List.getElem?_eq_getElem a, Option.getD_some] at e1
    rw [List.getD, List.getElem?_eq_getElem b, Option.getD_some] at e2
    rw [e1, e2, hk i hi]
    congr 1
    unfold rankA
    refine rank_congr hn fun j hj => ⟨?_, ?_⟩
    · by_cases h : i = j
      · subst h; rw [ahead_self cmA, ahead_self cmA]
      · unfold aheadB; rw [hc i j hi hj h]
    · rw [hk j hj, hk i hi]
def movL (frm more times : Int) (x : Int) : Int := if frm ≤ x then times * x + more else times * x
theorem mov_lt {frm more times x y : Int} (hm : 0 ≤ more) (ht : 1 ≤ times) (h : x < y) : movL frm more times x < movL frm more times y := by
  have h1 : times * x < times * y := Int.mul_lt_mul_of_pos_left h (by omega)
  unfold movL
  split <;> split <;> omega
theorem mov_cmp {frm more times : Int} (hm : 0 ≤ more) (ht : 1 ≤ times) (x y : Int) : cmpZ (movL frm more times x) (movL frm more times y) = cmpZ x y := by
  unfold cmpZ
  rcases Int.lt_trichotomy x y with h | h | h
  · have := mov_lt (frm := frm) hm ht h
    rw [if_pos this, if_pos h]
  · subst h
    rw [if_neg (by omega), if_neg (by omega), if_neg (by omega), if_neg (by omega)]
  · have := mov_lt (frm := frm) hm ht h
    rw [if_neg (by omega), if_pos this, if_neg (by omega), if_pos h]
end Go.Proofs.YtpchncpcckfghaaGreat
namespace Go.Proofs.YtpchncpcckfghaaGreat
open Go.RowKit
set_option linter.unusedVariables false
set_option linter.unusedSimpArgs false
def movB (f m t : Int) (a : AlD) : AlD := { a with line := movL f m t a.line }
theorem movB_at {f m t : Int} {l : List AlD} {i : Nat} (hi : i < l.length) : (l.map (movB f m t)).getD i al0 = movB f m t (l.getD i al0) := by simp [List.getD, hi]
theorem fing_movB (l : List AlD) (f m t : Int) (hm : 0 ≤ m) (ht : 1 ≤ t) : fingA (l.map (movB f m t)) = fingA l := by
  refine fing_congr (by simp) (fun i hi => ?_) (fun i j hi hj _ => ?_)
  · rw [movB_at (by simpa using hi)]; rfl
  · have hi' : i < l.length := by simpa using hi
    have hj' : j < l.length := by simpa using hj
    rw [movB_at hi', movB_at hj']
    unfold cmpA movB
    simp only []
    rw [mov_cmp hm ht]
theorem movB_small {l : List AlD} {f m t : Int} (h : ∀ a ∈ l, smallA a) : ∀ a ∈ l.map (movB f m t), smallA a := by
  intro a ha
  obtain ⟨b, hb, rfl⟩ := List.mem_map.1 ha
  exact h b hb
theorem movB_w {l : List AlD} {f m t : Int} (hm : 0 ≤ m) (hm2 : m ≤ 1000) (ht : 1 ≤ t) (ht2 : t ≤ 1000) (h : ∀ a ∈ l, alW a) (hl : ∀ k, k < l.length → 0 ≤ (l.getD k al0).line ∧ (l.getD k al0).line ≤ 1073741824) : ∀ a ∈ l.map (movB f m t), alW a := by
  intro a ha
  obtain ⟨b, hb, rfl⟩ := List.mem_map.1 ha
  obtain ⟨h1, h2, h3, h4, h5, h6⟩ := h b hb
  refine ⟨h1, h2, h3, h4, ?_, h6⟩
  obtain ⟨i, hi, rfl⟩ := List.mem_iff_getElem.1 hb
  have g := hl i hi
  have e : l.getD i al0 = l[i] := by simp [List.getD, hi]
  rw [e] at g
  obtain ⟨g1, g2⟩ := g
  have e1 : 0 ≤ t * l[i].line := Int.mul_nonneg (by omega) g1
  have e2 : t * l[i].line ≤ 1000 * 1073741824 := Int.mul_le_mul ht2 g2 g1 (by omega)
  show (Lit.int .i64 (movL f m t l[i].line)).wf = true
  unfold movL
  split <;> (simp [Lit.wf, IntKind.min, IntKind.max, IntKind.signed, IntKind.bits]; omega)
theorem same_self (w : World) (a1 a2 : Option Addr) (n1 n2 c1 c2 : Nat) (l : List AlD) (h1 : RO alC w a1 n1 c1 l) (h2 : RO alC w a2 n2 c2 l) : Calls Tryz.prog 26 #[.slice a1 n1 c1, .slice a2 n2 c2] w (DrawnB (.bool true) w) := by
  have h := ralSame_any a1 a2 n1 n2 c1 c2 l l w h1 h2
  rw [(sameA_iff l l).2 rfl] at h
  exact h
theorem apl_sum {α : Type} (d : α) (p : Nat → Bool) (l : List α) : ∀ k, (partL d p true l k).length + (partL d p false l k).length = k
  | 0 => rfl
  | k + 1 => by
    have h := apl_sum d p l k
    cases hp : p k with
    | true =>
      obtain ⟨e1, e2⟩ := apl_yes (d := d) (p := p) (l := l) hp
      rw [e1, e2, List.length_append]
      show _ + 1 + _ = _
      omega
    | false =>
      obtain ⟨e1, e2⟩ := apl_no (d := d) (p := p) (l := l) hp
      rw [e1, e2, List.length_append]
      show _ + (_ + 1) = _
      omega
set_option maxRecDepth 100000 in
set_option maxHeartbeats 8000000 in
theorem moves_big1 (w : World) (a1 a2 : Option Addr) (n1 n2 c1 c2 : Nat) (l : List MkD) (A : List AlD) (f m t : Int) (hw1 : ∀ t ∈ l, mkW t) (hw2 : ∀ t ∈ A, alW t) (h1 : RO mkC w a1 n1 c1 l) (h2 : RO alC w a2 n2 c2 A) (hg1 : bigMk 300 l = true) :
    Calls Tryz.prog 7 #[.slice a1 n1 c1, .slice a2 n2 c2, .int .i64 f, .int .i64 m, .int .i64 t] w (Gives (.bool true) w) := by
  have m1 := h1.len
  have qg1 := blarge_any w a1 n1 c1 l 300 h1 hw1
  have qg2 := alarge_any A a2 n2 c2 w h2 hw2
  have qlv := Lib.hid (fun W => blives_any W)
  rw [hg1] at qg1
  have QG1 := Lib.hid qg1
  clear qg1 qg2 h1 h2 hw1 hw2 hg1 m1
  go_enter Tryz.func7, Tryz.ntmps7
  go_wp2_with fail
  with_reducible refine QG1.out.mono ?_
  rintro e w1 ⟨rfl, rfl⟩
  go_wp2_with fail
  with_reducible refine (qlv.out _).mono ?_
  rintro e w2 ⟨rfl, b2⟩
  have b2' := Lib.hid b2
  clear b2
  go_wp2
  exact bodyPost_ret (results_tmp rfl _ _ _) rfl ⟨rfl, b2'.out⟩
set_option maxRecDepth 100000 in
set_option maxHeartbeats 8000000 in
theorem moves_big2 (w : World) (a1 a2 : Option Addr) (n1 n2 c1 c2 : Nat) (l : List MkD) (A : List AlD) (f m t : Int) (hw1 : ∀ t ∈ l, mkW t) (hw2 : ∀ t ∈ A, alW t) (h1 : RO mkC w a1 n1 c1 l) (h2 : RO alC w a2 n2 c2 A) (hg1 : bigMk 300 l = false) (hg2 : bigA A = true) :
    Calls Tryz.prog 7 #[.slice a1 n1 c1, .slice a2 n2 c2, .int .i64 f, .int .i64 m, .int .i64 t] w (Gives (.bool true) w) := by
  have m1 := h1.len
  have qg1 := blarge_any w a1 n1 c1 l 300 h1 hw1
  have qg2 := alarge_any A a2 n2 c2 w h2 hw2
  have qlv := Lib.hid (fun W => blives_any W)
  rw [hg1] at qg1
  rw [hg2] at qg2
  have QG1 := Lib.hid qg1
  have QG2 := Lib.hid qg2
  clear qg1 qg2 h1 h2 hw1 hw2 hg1 hg2 m1
  go_enter Tryz.func7, Tryz.ntmps7
  go_wp2_with fail
  with_reducible refine QG1.out.mono ?_
  rintro e w1 ⟨rfl, rfl⟩
  go_wp2_with fail
  with_reducible refine QG2.out.mono ?_
  rintro e w1 ⟨rfl, rfl⟩
  go_wp2_with fail
  with_reducible refine (qlv.out _).mono ?_
  rintro e w2 ⟨rfl, b2⟩
  have b2' := Lib.hid b2
  clear b2
  go_wp2
  exact bodyPost_ret (results_tmp rfl _ _ _) rfl ⟨rfl, b2'.out⟩
set_option maxRecDepth 100000 in
set_option maxHeartbeats 8000000 in
theorem moves_nob (w : World) (a1 a2 : Option Addr) (n1 n2 c1 c2 : Nat) (l : List MkD) (A : List AlD) (f m t : Int) (hw1 : ∀ t ∈ l, mkW t) (hw2 : ∀ t ∈ A, alW t) (h1 : RO mkC w a1 n1 c1 l) (h2 : RO alC w a2 n2 c2 A) (hg1 : bigMk 300 l = false) (hg2 : bigA A = false) (hb : baseB l = false) :
    Calls Tryz.prog 7 #[.slice a1 n1 c1, .slice a2 n2 c2, .int .i64 f, .int .i64 m, .int .i64 t] w (Gives (.bool true) w) := by
  have m1 := h1.len
  have qg1 := blarge_any w a1 n1 c1 l 300 h1 hw1
  have qg2 := alarge_any A a2 n2 c2 w h2 hw2
  have qlv := Lib.hid (fun W => blives_any W)
  rw [hg1] at qg1
  rw [hg2] at qg2
  have QG1 := Lib.hid qg1
  have QG2 := Lib.hid qg2
  have hz1 := Lib.hid (fun t (ht : t < n1) => by
    have h5 := (bigMk_no hg1).2 (l.getD t mk0) (by have htl : t < l.length := by omega
                                                   simp [List.getD, htl])
    omega : ∀ t, t < n1 → (l.getD t mk0).note.size ≤ 9223372036854775806)
  have qB := Lib.hid (by have := rbbase_any w a1 n1 c1 l h1 hz1.out; rw [hb] at this; exact this)
  clear qg1 qg2 h1 h2 hw1 hw2 hg1 hg2 m1 hb hz1
  go_enter Tryz.func7, Tryz.ntmps7
  go_wp2_with fail
  with_reducible refine QG1.out.mono ?_
  rintro e w1 ⟨rfl, rfl⟩
  go_wp2_with fail
  with_reducible refine QG2.out.mono ?_
  rintro e w1 ⟨rfl, rfl⟩
  go_wp2_with fail
  refine qB.out.mono ?_
  rintro e w1 ⟨rfl, m1, rfl⟩
  have B1 := Lib.hid (Below.drewN (Below.refl w.heap.size w) m1)
  generalize w.drewN m1 = w1 at *
  clear qB QG1 QG2
  go_wp2_with fail
  with_reducible refine (qlv.out _).mono ?_
  rintro e w2 ⟨rfl, b2⟩
  have b2' := Lib.hid b2
  clear b2
  go_wp2
  exact bodyPost_ret (results_tmp rfl _ _ _) rfl ⟨rfl, B1.out.trans (b2'.out.mono B1.out.size)⟩
set_option maxRecDepth 100000 in
set_option maxHeartbeats 8000000 in
theorem moves_m0 (w : World) (a1 a2 : Option Addr) (n1 n2 c1 c2 : Nat) (l : List MkD) (A : List AlD) (f m t : Int) (hw1 : ∀ t ∈ l, mkW t) (hw2 : ∀ t ∈ A, alW t) (h1 : RO mkC w a1 n1 c1 l) (h2 : RO alC w a2 n2 c2 A) (hg1 : bigMk 300 l = false) (hg2 : bigA A = false) (hb : baseB l = true) (hc : m < 0) :
    Calls Tryz.prog 7 #[.slice a1 n1 c1, .slice a2 n2 c2, .int .i64 f, .int .i64 m, .int .i64 t] w (Gives (.bool true) w) := by
  have m1 := h1.len
  have qg1 := blarge_any w a1 n1 c1 l 300 h1 hw1
  have qg2 := alarge_any A a2 n2 c2 w h2 hw2
  have qlv := Lib.hid (fun W => blives_any W)
  rw [hg1] at qg1
  rw [hg2] at qg2
  have QG1 := Lib.hid qg1
  have QG2 := Lib.hid qg2
  have hz1 := Lib.hid (fun t (ht : t < n1) => by
    have h5 := (bigMk_no hg1).2 (l.getD t mk0) (by have htl : t < l.length := by omega
                                                   simp [List.getD, htl])
    omega : ∀ t, t < n1 → (l.getD t mk0).note.size ≤ 9223372036854775806)
  have qB := Lib.hid (by have := rbbase_any w a1 n1 c1 l h1 hz1.out; rw [hb] at this; exact this)
  clear qg1 qg2 h1 h2 hw1 hw2 hg1 hg2 m1 hb hz1
  have hcb : decide (m < 0) = true := decide_eq_true hc
  go_enter Tryz.func7, Tryz.ntmps7
  go_wp2_with fail
  with_reducible refine QG1.out.mono ?_
  rintro e w1 ⟨rfl, rfl⟩
  go_wp2_with fail
  with_reducible refine QG2.out.mono ?_
  rintro e w1 ⟨rfl, rfl⟩
  go_wp2_with fail
  refine qB.out.mono ?_
  rintro e w1 ⟨rfl, m1, rfl⟩
  have B1 := Lib.hid (Below.drewN (Below.refl w.heap.size w) m1)
  generalize w.drewN m1 = w1 at *
  clear qB QG1 QG2
  go_wp2_with fail
  with_reducible refine (qlv.out _).mono ?_
  rintro e w2 ⟨rfl, b2⟩
  have b2' := Lib.hid b2
  clear b2
  go_wp2
  exact bodyPost_ret (results_tmp rfl _ _ _) rfl ⟨rfl, B1.out.trans (b2'.out.mono B1.out.size)⟩
set_option maxRecDepth 100000 in
set_option maxHeartbeats 8000000 in
theorem moves_m1 (w : World) (a1 a2 : Option Addr) (n1 n2 c1 c2 : Nat) (l : List MkD) (A : List AlD) (f m t : Int) (hw1 : ∀ t ∈ l, mkW t) (hw2 : ∀ t ∈ A, alW t) (h1 : RO mkC w a1 n1 c1 l) (h2 : RO alC w a2 n2 c2 A) (hg1 : bigMk 300 l = false) (hg2 : bigA A = false) (hb : baseB l = true) (p0 : 0 ≤ m) (hc : 1000 < m) :
    Calls Tryz.prog 7 #[.slice a1 n1 c1, .slice a2 n2 c2, .int .i64 f, .int .i64 m, .int .i64 t] w (Gives (.bool true) w) := by
  have m1 := h1.len
  have qg1 := blarge_any w a1 n1 c1 l 300 h1 hw1
  have qg2 := alarge_any A a2 n2 c2 w h2 hw2
  have qlv := Lib.hid (fun W => blives_any W)
  rw [hg1] at qg1
  rw [hg2] at qg2
  have QG1 := Lib.hid qg1
  have QG2 := Lib.hid qg2
  have hz1 := Lib.hid (fun t (ht : t < n1) => by
    have h5 := (bigMk_no hg1).2 (l.getD t mk0) (by have htl : t < l.length := by omega
                                                   simp [List.getD, htl])
    omega : ∀ t, t < n1 → (l.getD t mk0).note.size ≤ 9223372036854775806)
  have qB := Lib.hid (by have := rbbase_any w a1 n1 c1 l h1 hz1.out; rw [hb] at this; exact this)
  clear qg1 qg2 h1 h2 hw1 hw2 hg1 hg2 m1 hb hz1
  have m0 : ¬ m < 0 := by omega
  have m0b : decide (m < 0) = false := decide_eq_false m0
  have hcb : decide (1000 < m) = true := decide_eq_true hc
  go_enter Tryz.func7, Tryz.ntmps7
  go_wp2_with fail
  with_reducible refine QG1.out.mono ?_
  rintro e w1 ⟨rfl, rfl⟩
  go_wp2_with fail
  with_reducible refine QG2.out.mono ?_
  rintro e w1 ⟨rfl, rfl⟩
  go_wp2_with fail
  refine qB.out.mono ?_
  rintro e w1 ⟨rfl, m1, rfl⟩
  have B1 := Lib.hid (Below.drewN (Below.refl w.heap.size w) m1)
  generalize w.drewN m1 = w1 at *
  clear qB QG1 QG2
  go_wp2_with fail
  with_reducible refine (qlv.out _).mono ?_
  rintro e w2 ⟨rfl, b2⟩
  have b2' := Lib.hid b2
  clear b2
  go_wp2
  exact bodyPost_ret (results_tmp rfl _ _ _) rfl ⟨rfl, B1.out.trans (b2'.out.mono B1.out.size)⟩
set_option maxRecDepth 100000 in
set_option maxHeartbeats 8000000 in
theorem moves_t0 (w : World) (a1 a2 : Option Addr) (n1 n2 c1 c2 : Nat) (l : List MkD) (A : List AlD) (f m t : Int) (hw1 : ∀ t ∈ l, mkW t) (hw2 : ∀ t ∈ A, alW t) (h1 : RO mkC w a1 n1 c1 l) (h2 : RO alC w a2 n2 c2 A) (hg1 : bigMk 300 l = false) (hg2 : bigA A = false) (hb : baseB l = true) (p0 : 0 ≤ m) (p1 : m ≤ 1000) (hc : t < 1) :
    Calls Tryz.prog 7 #[.slice a1 n1 c1, .slice a2 n2 c2, .int .i64 f, .int .i64 m, .int .i64 t] w (Gives (.bool true) w) := by
  have m1 := h1.len
  have qg1 := blarge_any w a1 n1 c1 l 300 h1 hw1
  have qg2 := alarge_any A a2 n2 c2 w h2 hw2
  have qlv := Lib.hid (fun W => blives_any W)
  rw [hg1] at qg1
  rw [hg2] at qg2
  have QG1 := Lib.hid qg1
  have QG2 := Lib.hid qg2
  have hz1 := Lib.hid (fun t (ht : t < n1) => by
    have h5 := (bigMk_no hg1).2 (l.getD t mk0) (by have htl : t < l.length := by omega
                                                   simp [List.getD, htl])
    omega : ∀ t, t < n1 → (l.getD t mk0).note.size ≤ 9223372036854775806)
  have qB := Lib.hid (by have := rbbase_any w a1 n1 c1 l h1 hz1.out; rw [hb] at this; exact this)
  clear qg1 qg2 h1 h2 hw1 hw2 hg1 hg2 m1 hb hz1
  have m0 : ¬ m < 0 := by omega
  have m1 : ¬ 1000 < m := by omega
  have m0b : decide (m < 0) = false := decide_eq_false m0
  have m1b : decide (1000 < m) = false := decide_eq_false m1
  have hcb : decide (t < 1) = true := decide_eq_true hc
  go_enter Tryz.func7, Tryz.ntmps7
  go_wp2_with fail
  with_reducible refine QG1.out.mono ?_
  rintro e w1 ⟨rfl, rfl⟩
  go_wp2_with fail
  with_reducible refine QG2.out.mono ?_
  rintro e w1 ⟨rfl, rfl⟩
  go_wp2_with fail
  refine qB.out.mono ?_
  rintro e w1 ⟨rfl, m1, rfl⟩
  have B1 := Lib.hid (Below.drewN (Below.refl w.heap.size w) m1)
  generalize w.drewN m1 = w1 at *
  clear qB QG1 QG2
  go_wp2_with fail
  with_reducible refine (qlv.out _).mono ?_
  rintro e w2 ⟨rfl, b2⟩
  have b2' := Lib.hid b2
  clear b2
  go_wp2
  exact bodyPost_ret (results_tmp rfl _ _ _) rfl ⟨rfl, B1.out.trans (b2'.out.mono B1.out.size)⟩
set_option maxRecDepth 100000 in
set_option maxHeartbeats 8000000 in
theorem moves_t1 (w : World) (a1 a2 : Option Addr) (n1 n2 c1 c2 : Nat) (l : List MkD) (A : List AlD) (f m t : Int) (hw1 : ∀ t ∈ l, mkW t) (hw2 : ∀ t ∈ A, alW t) (h1 : RO mkC w a1 n1 c1 l) (h2 : RO alC w a2 n2 c2 A) (hg1 : bigMk 300 l = false) (hg2 : bigA A = false) (hb : baseB l = true) (p0 : 0 ≤ m) (p1 : m ≤ 1000) (p2 : 1 ≤ t) (hc : 1000 < t) :
    Calls Tryz.prog 7 #[.slice a1 n1 c1, .slice a2 n2 c2, .int .i64 f, .int .i64 m, .int .i64 t] w (Gives (.bool true) w) := by
  have m1 := h1.len
  have qg1 := blarge_any w a1 n1 c1 l 300 h1 hw1
  have qg2 := alarge_any A a2 n2 c2 w h2 hw2
  have qlv := Lib.hid (fun W => blives_any W)
  rw [hg1] at qg1
  rw [hg2] at qg2
  have QG1 := Lib.hid qg1
  have QG2 := Lib.hid qg2
  have hz1 := Lib.hid (fun t (ht : t < n1) => by
    have h5 := (bigMk_no hg1).2 (l.getD t mk0) (by have htl : t < l.length := by omega
                                                   simp [List.getD, htl])
    omega : ∀ t, t < n1 → (l.getD t mk0).note.size ≤ 9223372036854775806)
  have qB := Lib.hid (by have := rbbase_any w a1 n1 c1 l h1 hz1.out; rw [hb] at this; exact this)
  clear qg1 qg2 h1 h2 hw1 hw2 hg1 hg2 m1 hb hz1
  have m0 : ¬ m < 0 := by omega
  have m1 : ¬ 1000 < m := by omega
  have t0 : ¬ t < 1 := by omega
  have m0b : decide (m < 0) = false := decide_eq_false m0
  have m1b : decide (1000 < m) = false := decide_eq_false m1
  have t0b : decide (t < 1) = false := decide_eq_false t0
  have hcb : decide (1000 < t) = true := decide_eq_true hc
  go_enter Tryz.func7, Tryz.ntmps7
  go_wp2_with fail
  with_reducible refine QG1.out.mono ?_
  rintro e w1 ⟨rfl, rfl⟩
  go_wp2_with fail
  with_reducible refine QG2.out.mono ?_
  rintro e w1 ⟨rfl, rfl⟩
  go_wp2_with fail
  refine qB.out.mono ?_
  rintro e w1 ⟨rfl, m1, rfl⟩
  have B1 := Lib.hid (Below.drewN (Below.refl w.heap.size w) m1)
  generalize w.drewN m1 = w1 at *
  clear qB QG1 QG2
  go_wp2_with fail
  with_reducible refine (qlv.out _).mono ?_
  rintro e w2 ⟨rfl, b2⟩
  have b2' := Lib.hid b2
  clear b2
  go_wp2
  exact bodyPost_ret (results_tmp rfl _ _ _) rfl ⟨rfl, B1.out.trans (b2'.out.mono B1.out.size)⟩
set_option maxRecDepth 100000 in
set_option maxHeartbeats 8000000 in
theorem moves_ok (w : World) (a1 a2 : Option Addr) (n1 n2 c1 c2 : Nat) (l : List MkD) (A : List AlD) (f m t : Int) (hw1 : ∀ t ∈ l, mkW t) (hw2 : ∀ t ∈ A, alW t) (h1 : RO mkC w a1 n1 c1 l) (h2 : RO alC w a2 n2 c2 A) (hg1 : bigMk 300 l = false) (hg2 : bigA A = false) (hb : baseB l = true) (p0 : 0 ≤ m) (p1 : m ≤ 1000) (p2 : 1 ≤ t) (p3 : t ≤ 1000) :
    Calls Tryz.prog 7 #[.slice a1 n1 c1, .slice a2 n2 c2, .int .i64 f, .int .i64 m, .int .i64 t] w (Gives (.bool true) w) := by
  have m1 := h1.len
  have qg1 := blarge_any w a1 n1 c1 l 300 h1 hw1
  have qg2 := alarge_any A a2 n2 c2 w h2 hw2
  have qlv := Lib.hid (fun W => blives_any W)
  rw [hg1] at qg1
  rw [hg2] at qg2
  have QG1 := Lib.hid qg1
  have QG2 := Lib.hid qg2
  have hz1 := Lib.hid (fun t (ht : t < n1) => by
    have h5 := (bigMk_no hg1).2 (l.getD t mk0) (by have htl : t < l.length := by omega
                                                   simp [List.getD, htl])
    omega : ∀ t, t < n1 → (l.getD t mk0).note.size ≤ 9223372036854775806)
  have qB := Lib.hid (by have := rbbase_any w a1 n1 c1 l h1 hz1.out; rw [hb] at this; exact this)
  have hsm := small_of hg2
  have hS : ∀ s ∈ A, smallA s := fun s hs => by obtain ⟨p, q, r⟩ := hsm.2 s hs; exact ⟨p, by omega, r⟩
  have m2 := h2.len
  have hn2 : n2 ≤ 100 := by have := hsm.1; omega
  have hn1 : n1 ≤ 300 := by have := (bigMk_no hg1).1; omega
  have hP := pdqOK_any (n := n2) (by omega)
  have R1 := Lib.hid (fun W hW => h1.below (w' := W) hW)
  have R2 := Lib.hid (fun W hW => h2.below (w' := W) hW)
  have hfl := Lib.hid (show (fingA A).length = n2 by rw [fing_len, m2])
  have qM := Lib.hid (fun W hW => by have := bmatch_ok W a1 a2 n1 n2 c1 c2 l A hb (h1.below hW) (h2.below hW) hw2 hS hn2 hP; rw [prints_fing m2] at this; exact this)
  have qN := Lib.hid (fun (hl : ∀ k, k < n2 → 0 ≤ (A.getD k al0).line ∧ (A.getD k al0).line ≤ 1073741824) W am cm (hR : RO alC W am n2 cm (A.map (movB f m t))) hW => by
    have := bmatch_ok W a1 am n1 n2 c1 cm l (A.map (movB f m t)) hb (h1.below hW) hR (movB_w p0 p1 p2 p3 hw2 (by rw [← m2]; exact hl)) (movB_small hS) hn2 hP
    rw [prints_fing hR.len, fing_movB A f m t p0 p2] at this
    exact this)
  have qF := Lib.hid (fun W hW => rfofs_any A a2 n2 c2 W (h2.below hW) hw2 hS hn2)
  have qh := Lib.hid (fun W x hW => bhas_any W a1 n1 c1 l x (h1.below hW))
  have hml : Hid (∀ k, k < n2 → alcells ((A.take (k + 1)).map (movB f m t)) = alcells ((A.take k).map (movB f m t) ++ [movB f m t (A.getD k al0)])) := Lib.hid (fun k hk => by
    rw [m2] at hk
    congr 1
    rw [List.take_add_one, List.map_append]
    simp [List.getD, hk])
  have htk : Hid ((A.take n2).map (movB f m t) = A.map (movB f m t)) := Lib.hid (by rw [List.take_of_length_le (by omega)])
  have hat : Hid (∀ k, k < n2 → (A.map (movB f m t)).getD k al0 = movB f m t (A.getD k al0)) := Lib.hid (fun k hk => movB_at (by omega))
  have hD1 : Hid (splitD l A (fingA A) = ⟨partL al0 (fun k => hasB l ((fingA A).getD k 0)) true A n2, partL al0 (fun k => hasB l ((fingA A).getD k 0)) false A n2, partL mk0 (fun k => decide ((l.getD k mk0).f ∈ fingA A)) true l n1, partL mk0 (fun k => decide ((l.getD k mk0).f ∈ fingA A)) false l n1⟩) := Lib.hid (by rw [m1, m2]; rfl)
  have hD2 : Hid (splitD l (A.map (movB f m t)) (fingA A) = ⟨partL al0 (fun k => hasB l ((fingA A).getD k 0)) true (A.map (movB f m t)) n2, partL al0 (fun k => hasB l ((fingA A).getD k 0)) false (A.map (movB f m t)) n2, partL mk0 (fun k => decide ((l.getD k mk0).f ∈ fingA A)) true l n1, partL mk0 (fun k => decide ((l.getD k mk0).f ∈ fingA A)) false l n1⟩) := Lib.hid (by rw [m1, m2]; unfold splitD; rw [List.length_map])
  have hln2 : Hid (A.length = n2) := Lib.hid m2.symm
  clear qg1 qg2 h1 h2 hw1 hw2 hg1 hg2 m1 hb hz1 hsm hS hP m2
  generalize splitD l A (fingA A) = D1 at *
  generalize splitD l (A.map (movB f m t)) (fingA A) = D2 at *
  generalize fingA A = FL at *
  have m0 : ¬ m < 0 := by omega
  have mk : ¬ 1000 < m := by omega
  have t0 : ¬ t < 1 := by omega
  have tk : ¬ 1000 < t := by omega
  have m0b : decide (m < 0) = false := decide_eq_false m0
  have mkb : decide (1000 < m) = false := decide_eq_false mk
  have t0b : decide (t < 1) = false := decide_eq_false t0
  have tkb : decide (1000 < t) = false := decide_eq_false tk
  have hn2z : (n2 : Int) ≤ 100 := by omega
  go_enter Tryz.func7, Tryz.ntmps7
  go_wp2_with fail
  with_reducible refine QG1.out.mono ?_
  rintro e w1 ⟨rfl, rfl⟩
  go_wp2_with fail
  with_reducible refine QG2.out.mono ?_
  rintro e w1 ⟨rfl, rfl⟩
  go_wp2_with fail
  refine qB.out.mono ?_
  rintro e w1 ⟨rfl, m1, rfl⟩
  have B1 := Lib.hid (Below.drewN (Below.refl w.heap.size w) m1)
  generalize w.drewN m1 = w1 at *
  clear qB QG1 QG2
  go_wp2
  go_loopw [11, 12] (fun v x wr => ∃ k : Nat, k ≤ n2 ∧ x = .int .i64 k ∧ Hid (wr.ownsRow w1.heap.size 54 6 v k (alcells ((A.take k).map (movB f m t)))) ∧ Hid (Below w1.heap.size w1 wr) ∧ Hid (∀ j, j < k → 0 ≤ (A.getD j al0).line ∧ (A.getD j al0).line ≤ 1073741824)) (fun _ x _ => n2 - (intOf x).toNat)
  case atStart => exact ⟨0, Nat.zero_le _, rfl, Lib.hid (own_al_nil _ _), Lib.hid (Below.refl _ _), Lib.hid (fun j hj => by omega)⟩
  case round =>
    obtain ⟨k, hk, rfl, hO, hB, hA⟩ := hrel
    generalize wr = g0 at *
    by_cases hlt : k < n2
    · have hki : (k : Int) < (n2 : Int) := by omega
      obtain ⟨b, off, rfl, hlb, x0, x1, x2, x3, x4, x5⟩ := al_at (R2.out g0 (B1.out.trans (hB.out.mono B1.out.size))) hlt
      have hstep := Lib.hid (hml.out k hlt)
      have hA2 : Hid (0 ≤ (A.getD k al0).line → (A.getD k al0).line ≤ 1073741824 → ∀ j, j < k + 1 → 0 ≤ (A.getD j al0).line ∧ (A.getD j al0).line ≤ 1073741824) := Lib.hid (fun h1 h2 j hj => by
        by_cases e : j = k
        · rw [e]; exact ⟨h1, h2⟩
        · exact hA.out j (by omega))
      clear hA qM qN qF qh htk hat hD1 hD2 hln2 hml hfl R1 R2 hn1
      generalize A.getD k al0 = X at *
      obtain ⟨ak, av, af, ai, al, ax⟩ := X
      dsimp only at *
      by_cases l0 : al < 0
      · clear hA2 hstep
        go_wp2_with fail
        with_reducible refine (qlv.out _).mono ?_
        rintro e g1 ⟨rfl, b1⟩
        have BZ := Lib.hid (B1.out.trans ((hB.out.trans (((box_below g0 #[.int .i64 ak, .int .i64 av, .string af, .string ai, .int .i64 al, .string ax] 54).trans (b1.mono (by simp))).mono hB.out.size)).mono B1.out.size))
        clear b1
        go_wp2
        exact bodyPost_ret (results_tmp rfl _ _ _) rfl ⟨rfl, BZ.out⟩
      have l0b : decide (al < 0) = false := decide_eq_false l0
      by_cases l1 : 1073741824 < al
      · clear hA2 hstep
        go_wp2_with fail
        with_reducible refine (qlv.out _).mono ?_
        rintro e g1 ⟨rfl, b1⟩
        have BZ := Lib.hid (B1.out.trans ((hB.out.trans (((box_below g0 #[.int .i64 ak, .int .i64 av, .string af, .string ai, .int .i64 al, .string ax] 54).trans (b1.mono (by simp))).mono hB.out.size)).mono B1.out.size))
        clear b1
        go_wp2
        exact bodyPost_ret (results_tmp rfl _ _ _) rfl ⟨rfl, BZ.out⟩
      have l1b : decide (1073741824 < al) = false := decide_eq_false l1
      have hA3 := Lib.hid (hA2.out (by omega) (by omega))
      have e1 : 0 ≤ t * al := Int.mul_nonneg (by omega) (by omega)
      have e2 : t * al ≤ 1000 * 1073741824 := Int.mul_le_mul p3 (by omega) (by omega) (by omega)
      have e2' : t * al ≤ 1073741824000 := by omega
      have wr1 : wrap64 (t * al) = t * al := by unfold wrap64; omega
      clear hA2 e2
      by_cases hf : f ≤ al
      · have hmv : Hid (movB f m t ⟨ak, av, af, ai, al, ax⟩ = ⟨ak, av, af, ai, t * al + m, ax⟩) := Lib.hid (by unfold movB movL; simp only []; rw [if_pos hf])
        have wr2 : wrap64 (t * al + m) = t * al + m := by unfold wrap64; omega
        rw [hmv.out] at hstep
        have hfb : decide (f ≤ al) = true := decide_eq_true hf
        clear hmv
        have hB1 := Lib.hid (box_below g0 #[.int .i64 ak, .int .i64 av, .string af, .string ai, .int .i64 (t * al + m), .string ax] 54)
        have hO1 := Lib.hid (own_below hO.out hB1.out)
        have hBB := Lib.hid (hB.out.trans (hB1.out.mono hB.out.size))
        clear hO hB hB1
        go_wp2_with (at_builtin; go_loud (refine wpList_append_al _ rfl (.tmp 86) (.tmp 88) rfl w1 _ k _ hO1.out hBB.out ⟨ak, av, af, ai, t * al + m, ax⟩ rfl _ rfl (by simp) (by omega) ?_); intro v' g2 o2 b2; have O2 := Lib.hid o2; have B2 := Lib.hid b2; clear o2 b2)
        rw [← hstep.out] at O2
        clear hstep hO1 hBB
        go_wp2
        go_roundw
        case rel => exact ⟨k + 1, by omega, by go_num, O2, B2, hA3⟩
        case measure => simp [intOf]; omega
      · have hmv : Hid (movB f m t ⟨ak, av, af, ai, al, ax⟩ = ⟨ak, av, af, ai, t * al, ax⟩) := Lib.hid (by unfold movB movL; simp only []; rw [if_neg hf])
        rw [hmv.out] at hstep
        have hfb : decide (f ≤ al) = false := decide_eq_false hf
        clear hmv
        have hB1 := Lib.hid (box_below g0 #[.int .i64 ak, .int .i64 av, .string af, .string ai, .int .i64 (t * al), .string ax] 54)
        have hO1 := Lib.hid (own_below hO.out hB1.out)
        have hBB := Lib.hid (hB.out.trans (hB1.out.mono hB.out.size))
        clear hO hB hB1
        go_wp2_with (at_builtin; go_loud (refine wpList_append_al _ rfl (.tmp 86) (.tmp 88) rfl w1 _ k _ hO1.out hBB.out ⟨ak, av, af, ai, t * al, ax⟩ rfl _ rfl (by simp) (by omega) ?_); intro v' g2 o2 b2; have O2 := Lib.hid o2; have B2 := Lib.hid b2; clear o2 b2)
        rw [← hstep.out] at O2
        clear hstep hO1 hBB
        go_wp2
        go_roundw
        case rel => exact ⟨k + 1, by omega, by go_num, O2, B2, hA3⟩
        case measure => simp [intOf]; omega
    · obtain rfl : k = n2 := by omega
      have hki : ¬ (k : Int) < (k : Int) := by omega
      rw [htk.out] at hO
      obtain ⟨am, cm, rfl, hRm⟩ := ro_own hO.out
      have RM0 := Lib.hid hRm
      have qN' := Lib.hid (fun W am cm => qN.out hA.out W am cm)
      have BA := Lib.hid (B1.out.trans (hB.out.mono B1.out.size))
      clear hRm hO hA hml htk qN hB
      go_wp2_with fail
      refine (qM.out _ BA.out).mono ?_
      rintro e w2 ⟨⟨x1, y1, z1, x2, y2, z2, x3, y3, z3, x4, y4, z4⟩, rfl, hR, b2⟩
      dsimp only [SpV.cells]
      obtain ⟨V2, hV2⟩ : ∃ Z, Z = w2.alloc (.cells #[.slice x1 y1 z1, .slice x2 y2 z2, .slice x3 y3 z3, .slice x4 y4 z4] 28) := ⟨_, rfl⟩
      obtain ⟨gs, hgs⟩ : ∃ z, z = w2.heap.size := ⟨_, rfl⟩
      have cV2 : Below w2.heap.size w2 V2 := by rw [hV2]; exact box_below _ _ _
      have HS := Lib.hid (show Holds V2 gs 28 #[.slice x1 y1 z1, .slice x2 y2 z2, .slice x3 y3 z3, .slice x4 y4 z4] by rw [hV2, hgs]; exact Holds.new _ _ _)
      have e2 := b2.trans (cV2.mono b2.size)
      have RS2 := Lib.hid (hR.below cV2)
      have RM2 := Lib.hid (RM0.out.below e2)
      have B2 := Lib.hid (BA.out.trans (e2.mono BA.out.size))
      have hV2' := Lib.hid hV2
      have hgs' := Lib.hid hgs
      clear b2 cV2 e2 hV2 hgs hR qM RM0 BA
      go_upto_region 15 with (fail)
      rw [← hV2'.out, ← hgs'.out]
      clear hV2' hgs'
      go_wp2_with fail
      refine (qN'.out _ _ _ RM2.out B2.out).mono ?_
      rintro e w3 ⟨⟨u1, v1, s1, u2, v2, s2, u3, v3, s3, u4, v4, s4⟩, rfl, hR, b3⟩
      dsimp only [SpV.cells]
      obtain ⟨V3, hV3⟩ : ∃ Z, Z = w3.alloc (.cells #[.slice u1 v1 s1, .slice u2 v2 s2, .slice u3 v3 s3, .slice u4 v4 s4] 28) := ⟨_, rfl⟩
      obtain ⟨gt, hgt⟩ : ∃ z, z = w3.heap.size := ⟨_, rfl⟩
      have cV3 : Below w3.heap.size w3 V3 := by rw [hV3]; exact box_below _ _ _
      have HT := Lib.hid (show Holds V3 gt 28 #[.slice u1 v1 s1, .slice u2 v2 s2, .slice u3 v3 s3, .slice u4 v4 s4] by rw [hV3, hgt]; exact Holds.new _ _ _)
      have e3 := b3.trans (cV3.mono b3.size)
      have RT3 := Lib.hid (hR.below cV3)
      have RS3 := Lib.hid (RS2.out.below e3)
      have HS3 := Lib.hid (HS.out.below e3 HS.out.lt)
      have RM3 := Lib.hid (RM2.out.below e3)
      have B3 := Lib.hid (B2.out.trans (e3.mono B2.out.size))
      have hV3' := Lib.hid hV3
      have hgt' := Lib.hid hgt
      clear b3 cV3 e3 hV3 hgt hR qN' RM2 B2 RS2 HS
      go_upto_region 16 with (fail)
      rw [← hV3'.out, ← hgt'.out]
      clear hV3' hgt'
      go_wp2_with fail
      with_reducible refine (qlv.out _).mono ?_
      rintro e w4 ⟨rfl, b4⟩
      have RT4 := Lib.hid (RT3.out.below b4)
      have RS4 := Lib.hid (RS3.out.below b4)
      have HS4 := Lib.hid (HS3.out.below b4 HS3.out.lt)
      have HT4 := Lib.hid (HT.out.below b4 HT.out.lt)
      have RM4 := Lib.hid (RM3.out.below b4)
      have B4 := Lib.hid (B3.out.trans (b4.mono B3.out.size))
      clear b4 RT3 RS3 HS3 HT RM3 B3 qlv
      rw [hD1.out] at RS4
      rw [hD2.out] at RT4
      have hsum : Hid (y1 + y2 = k) := Lib.hid (by have q1 := RS4.out.k.len; have q2 := RS4.out.f.len; dsimp only at q1 q2; rw [q1, q2]; exact apl_sum _ _ _ _)
      have wrs : wrap64 ((y1 : Int) + (y2 : Int)) = (k : Int) := by have := hsum.out; unfold wrap64; omega
      clear hsum
      obtain ⟨PM, hPM⟩ : ∃ P, P = partL mk0 (fun k => decide ((l.getD k mk0).f ∈ FL)) true l n1 := ⟨_, rfl⟩
      obtain ⟨PS, hPS⟩ : ∃ P, P = partL mk0 (fun k => decide ((l.getD k mk0).f ∈ FL)) false l n1 := ⟨_, rfl⟩
      rw [← hPM, ← hPS] at RS4 RT4
      clear hPM hPS hD1 hD2
      have s0 := HS4.out.cell 0
      have s1' := HS4.out.cell 1
      have s2' := HS4.out.cell 2
      have s3' := HS4.out.cell 3
      have t0' := HT4.out.cell 0
      have t1' := HT4.out.cell 1
      have t2' := HT4.out.cell 2
      have t3' := HT4.out.cell 3
      simp at s0 s1' s2' s3' t0' t1' t2' t3'
      have qS1 := Lib.hid (fun W hW => by have := mkSame_any x3 u3 y3 v3 z3 s3 PM PM W (RS4.out.m.below hW) (RT4.out.m.below hW); rw [sameM_refl'] at this; exact this)
      have qS2 := Lib.hid (fun W hW => by have := mkSame_any x4 u4 y4 v4 z4 s4 PS PS W (RS4.out.s.below hW) (RT4.out.s.below hW); rw [sameM_refl'] at this; exact this)
      go_wp2_with fail
      refine (qS1.out _ (Below.refl _ _)).mono ?_
      rintro e w5 ⟨rfl, m5, rfl⟩
      have b5 : Below w4.heap.size w4 (w4.drewN m5) := Below.drewN (Below.refl _ _) m5
      have D5 := Lib.hid b5
      clear b5 s0 s1' s2' s3' t0' t1' t2' t3' qS1
      generalize w4.drewN m5 = w5 at *
      have HS5 := HS4.out.below D5.out HS4.out.lt
      have HT5 := HT4.out.below D5.out HT4.out.lt
      have s3' := HS5.cell 3
      have t3' := HT5.cell 3
      simp at s3' t3'
      go_wp2_with fail
      refine (qS2.out _ D5.out).mono ?_
      rintro e w6 ⟨rfl, m6, rfl⟩
      have D6 := Lib.hid (Below.drewN D5.out m6)
      clear s3' t3' qS2 HS5 HT5 D5
      generalize w5.drewN m6 = w6 at *
      have RT6 := Lib.hid (RT4.out.below D6.out)
      have RS6 := Lib.hid (RS4.out.below D6.out)
      have HS6 := Lib.hid (HS4.out.below D6.out HS4.out.lt)
      have HT6 := Lib.hid (HT4.out.below D6.out HT4.out.lt)
      have RM6 := Lib.hid (RM4.out.below D6.out)
      have B6 := Lib.hid (B4.out.trans (D6.out.mono B4.out.size))
      clear RT4 RS4 HS4 HT4 RM4 B4 D6 wrs
      go_wp2_with fail
      refine (qF.out _ B6.out).mono ?_
      rintro e w7 hM
      obtain ⟨af, cf, rfl, hsF, b7⟩ := hM.open k hfl.out
      have SF := Lib.hid hsF
      have RT7 := Lib.hid (RT6.out.below b7)
      have RS7 := Lib.hid (RS6.out.below b7)
      have HS7 := Lib.hid (HS6.out.below b7 HS6.out.lt)
      have HT7 := Lib.hid (HT6.out.below b7 HT6.out.lt)
      have RM7 := Lib.hid (RM6.out.below b7)
      have B7 := Lib.hid (B6.out.trans (b7.mono B6.out.size))
      clear hM hsF b7 RT6 RS6 HS6 HT6 RM6 B6 qF
      obtain ⟨V8, hV8⟩ : ∃ Z, Z = w7.alloc (.cells #[.slice none 0 0, .slice none 0 0, .slice none 0 0, .slice none 0 0] 28) := ⟨_, rfl⟩
      obtain ⟨gW, hgW⟩ : ∃ z, z = w7.heap.size := ⟨_, rfl⟩
      have c8 : Below w7.heap.size w7 V8 := by rw [hV8]; exact box_below _ _ _
      have HW8 : Holds V8 gW 28 #[.slice none 0 0, .slice none 0 0, .slice none 0 0, .slice none 0 0] := by rw [hV8, hgW]; exact Holds.new _ _ _
      obtain ⟨V9, hV9⟩ : ∃ Z, Z = V8.alloc (.cells #[.slice none 0 0, .slice none 0 0, .slice none 0 0, .slice none 0 0] 28) := ⟨_, rfl⟩
      obtain ⟨gN, hgN⟩ : ∃ z, z = w7.heap.size + 1 := ⟨_, rfl⟩
      have z8 : V8.heap.size = gN := by rw [hV8, hgN]; simp
      have c9 : Below V8.heap.size V8 V9 := by rw [hV9]; exact box_below _ _ _
      have HN9 : Hid (Holds V9 gN 28 #[.slice none 0 0, .slice none 0 0, .slice none 0 0, .slice none 0 0]) := Lib.hid (by rw [hV9, ← z8]; exact Holds.new _ _ _)
      have HW9 : Hid (Holds V9 gW 28 #[.slice none 0 0, .slice none 0 0, .slice none 0 0, .slice none 0 0]) := Lib.hid (HW8.below c9 HW8.lt)
      have D9 := Lib.hid (c8.trans (c9.mono c8.size))
      have D9s := Lib.hid D9.out.size
      have hlt1 : gW < gN := by omega
      have hlt0 : w7.heap.size ≤ gW := by omega
      have hl_gN : gN < V9.heap.size := HN9.out.lt
      have hl_gW : gW < V9.heap.size := by omega
      have hg_gW : w7.heap.size ≤ gW := hlt0
      have hg_gN : w7.heap.size ≤ gN := by omega
      obtain ⟨i0, zz, hi0, hz, h6, h72, hz6⟩ := infoAlZ
      have F9 : Hid (FourX alC 54 6 V9.heap.size V9 (.slice none 0 0) (.slice none 0 0) (.slice none 0 0) (.slice none 0 0) (partL al0 (fun k => hasB l (FL.getD k 0)) true A 0) (partL al0 (fun k => hasB l (FL.getD k 0)) false A 0) (partL al0 (fun k => hasB l (FL.getD k 0)) true (A.map (movB f m t)) 0) (partL al0 (fun k => hasB l (FL.getD k 0)) false (A.map (movB f m t)) 0)) := Lib.hid (FourX.nil _ _ _ _)
      have hV8' := Lib.hid hV8
      have hV9' := Lib.hid hV9
      have hgW' := Lib.hid hgW
      have hgN' := Lib.hid hgN
      clear c8 HW8 c9 hV8 hV9 hgW hgN z8
      go_upto_region 20 with (fail)
      rw [← hV8'.out, ← hV9'.out, ← hgN'.out, ← hgW'.out]
      clear hV8' hV9' hgN' hgW'
      go_wp2
      go_loopw [21] (fun x wr => ∃ (i : Nat) (q1 q2 q3 q4 : Value), i ≤ k ∧ x = .int .i64 i ∧ Hid (FourX alC 54 6 V9.heap.size wr q1 q2 q3 q4 (partL al0 (fun k => hasB l (FL.getD k 0)) true A i) (partL al0 (fun k => hasB l (FL.getD k 0)) false A i) (partL al0 (fun k => hasB l (FL.getD k 0)) true (A.map (movB f m t)) i) (partL al0 (fun k => hasB l (FL.getD k 0)) false (A.map (movB f m t)) i)) ∧ Hid (Holds wr gW 28 #[q1, q2, .slice none 0 0, .slice none 0 0]) ∧ Hid (Holds wr gN 28 #[q3, q4, .slice none 0 0, .slice none 0 0]) ∧ Hid (Below w7.heap.size w7 wr)) (fun x _ => k - (intOf x).toNat)
      case atStart => exact ⟨0, _, _, _, _, Nat.zero_le _, rfl, F9, HW9, HN9, D9⟩
      case round =>
        clear F9 HW9 HN9 D9
        obtain ⟨i, q1, q2, q3, q4, hi, rfl, hF, hW1, hN1, hB⟩ := hrel
        generalize wr = g0 at *
        by_cases hlt : i < k
        · have hki : (i : Int) < (k : Int) := by omega
          obtain ⟨fb, fo, rfl, hfb, y⟩ := sees_num (SF.out.below hB.out) (i := i) (by rw [hfl.out]; exact hlt)
          have qh' := Lib.hid (qh.out g0 (FL.getD i 0) (B7.out.trans (hB.out.mono B7.out.size)))
          obtain ⟨b, off, rfl, hbl, -⟩ := al_at (R2.out g0 (B7.out.trans (hB.out.mono B7.out.size))) hlt
          obtain ⟨bm, om, rfl, hbm, -⟩ := al_at (RM7.out.below hB.out) hlt
          have X1 := Lib.hid (fun W (hW : Below w7.heap.size w7 W) => al_cells (R2.out W (B7.out.trans (Below.mono hW B7.out.size))) hlt)
          have X2 := Lib.hid (fun W (hW : Below w7.heap.size w7 W) => al_cells (RM7.out.below hW) hlt)
          have hyes := Lib.hid (fun (h : hasB l (FL.getD i 0) = true) => apl_yes (d := al0) (p := fun k => hasB l (FL.getD k 0)) (l := A) (k := i) h)
          have hno := Lib.hid (fun (h : hasB l (FL.getD i 0) = false) => apl_no (d := al0) (p := fun k => hasB l (FL.getD k 0)) (l := A) (k := i) h)
          have myes := Lib.hid (fun (h : hasB l (FL.getD i 0) = true) => apl_yes (d := al0) (p := fun k => hasB l (FL.getD k 0)) (l := A.map (movB f m t)) (k := i) h)
          have mno := Lib.hid (fun (h : hasB l (FL.getD i 0) = false) => apl_no (d := al0) (p := fun k => hasB l (FL.getD k 0)) (l := A.map (movB f m t)) (k := i) h)
          have hla := Lib.hid (fun b => apl_len al0 (fun k => hasB l (FL.getD k 0)) b A i)
          have hlm := Lib.hid (fun b => apl_len al0 (fun k => hasB l (FL.getD k 0)) b (A.map (movB f m t)) i)
          generalize FL.getD i 0 = x at *
          generalize A.getD i al0 = X at *
          generalize (A.map (movB f m t)).getD i al0 = Y at *
          clear hfl SF
          go_wp2_with fail
          refine qh'.out.mono ?_
          rintro e w8 ⟨rfl, rfl⟩
          clear qh' y
          have hb7 : Hid (w7.heap.size ≤ V9.heap.size) := Lib.hid D9s.out
          cases hE : hasB l x
          · obtain ⟨e1, e2⟩ := hno.out hE
            obtain ⟨e3, e4⟩ := mno.out hE
            have e1' := Lib.hid e1
            have e2' := Lib.hid e2
            have e3' := Lib.hid e3
            have e4' := Lib.hid e4
            have hq1 := hla.out false
            have hq2 := hlm.out false
            clear e1 e2 e3 e4 hyes hno myes mno hE hla hlm
            go_upto_region 26 with (fail)
            have xk0 : ∀ W, BelowE [gW] V9.heap.size g0 W → W.cell? ⟨b, off + i * 6, none⟩ = some (.int .i64 X.kind) := fun W hW => (X1.out W (hB.out.trans (bE_below hW (Nat.le_trans hb7.out (Nat.le_refl _)) hg_gW))).1
            have xk1 : ∀ W, BelowE [gW] V9.heap.size g0 W → W.cell? ⟨b, off + i * 6 + 1, none⟩ = some (.int .i64 X.sev) := fun W hW => (X1.out W (hB.out.trans (bE_below hW (Nat.le_trans hb7.out (Nat.le_refl _)) hg_gW))).2.1
            have xk2 : ∀ W, BelowE [gW] V9.heap.size g0 W → W.cell? ⟨b, off + i * 6 + 2, none⟩ = some (.string X.fn) := fun W hW => (X1.out W (hB.out.trans (bE_below hW (Nat.le_trans hb7.out (Nat.le_refl _)) hg_gW))).2.2.1
            have xk3 : ∀ W, BelowE [gW] V9.heap.size g0 W → W.cell? ⟨b, off + i * 6 + 3, none⟩ = some (.string X.file) := fun W hW => (X1.out W (hB.out.trans (bE_below hW (Nat.le_trans hb7.out (Nat.le_refl _)) hg_gW))).2.2.2.1
            have xk4 : ∀ W, BelowE [gW] V9.heap.size g0 W → W.cell? ⟨b, off + i * 6 + 4, none⟩ = some (.int .i64 X.line) := fun W hW => (X1.out W (hB.out.trans (bE_below hW (Nat.le_trans hb7.out (Nat.le_refl _)) hg_gW))).2.2.2.2.1
            have xk5 : ∀ W, BelowE [gW] V9.heap.size g0 W → W.cell? ⟨b, off + i * 6 + 5, none⟩ = some (.string X.expr) := fun W hW => (X1.out W (hB.out.trans (bE_below hW (Nat.le_trans hb7.out (Nat.le_refl _)) hg_gW))).2.2.2.2.2
            have hall := Lib.hid (And.intro (show Holds g0.drew gW 28 #[q1, q2, .slice none 0 0, .slice none 0 0] from hW1.out.drew) (And.intro (hF.out.swap12.below (Below.refl _ _).drew) (show V9.heap.size ≤ g0.drew.heap.size from hF.out.swap12.b)))
            have hsz : g0.drew.heap.size = g0.drew.heap.size := rfl
            refine wp_drawn_on (fun W => BelowE [gW] V9.heap.size g0 W) (by kernel_rfl) ((BelowE.of (Below.refl _ _).drew)) (fun hHeld => ?_)
            generalize g0.drew = WDk at hsz hall hHeld ⊢
            refine wT 0 (v := ?v1) rfl (by kernel_rfl) (fun _ _ _ h => h) ?h1 (by assumption) ?r1
            case h1 => (intro w hSw; (try dsimp only at hSw); go_simp; try with_reducible rfl)
            refine wT 2 (v := ?v2) rfl (by kernel_rfl) (fun _ _ _ h => h) ?h2 (by assumption) ?r2
            case h2 => (intro w hSw; (try dsimp only at hSw); go_simp; try with_reducible rfl)
            refine wT 3 (v := ?v3) rfl (by kernel_rfl) (fun _ _ _ h => h) ?h3 (by assumption) ?r3
            case h3 => (intro w hSw; (try dsimp only at hSw); go_simp; try with_reducible rfl)
            refine wT 4 (v := ?v4) rfl (by kernel_rfl) (fun _ _ _ h => h) ?h4 (by assumption) ?r4
            case h4 => (intro w hSw; (try dsimp only at hSw); go_simp; try with_reducible rfl)
            refine wT 5 (v := ?v5) rfl (by kernel_rfl) (fun _ _ _ h => h) ?h5 (by assumption) ?r5
            case h5 => (intro w hSw; (try dsimp only at hSw); go_simp; try with_reducible rfl)
            try simp only [Act.put, List.setIfInBounds_toArray, List.set_cons_zero, List.set_cons_succ]
            refine wpAnyH_ready (rs := [1, 6]) (by kernel_rfl) (by simp) ?_
            refine AllReadyH.cons (o := ⟨_, _, _, _, _, _⟩) rfl (fun K hK => ?_) (AllReadyH.cons (o := ⟨_, _, _, _, _, _⟩) rfl (fun K hK => ?_) AllReadyH.nil)
            · first | (have c1 := hH6.out.cell 1; simp at c1) | (have c1 := hall.out.1.cell 1; simp at c1)
              go_simp
              refine hK.out _ _ (hHeld) (fun hHeld => ?_)
              clear hK K
              try simp only [Act.put, List.setIfInBounds_toArray, List.set_cons_zero, List.set_cons_succ]
              refine wpAnyH_ready (rs := [6]) (by kernel_rfl) (by simp) ?_
              refine AllReadyH.cons (o := ⟨_, _, _, _, _, _⟩) rfl (fun K hK => ?_) AllReadyH.nil
              have hx6 := hHeld.trans (BelowE.of (X := [gW]) ((box_below WDk #[.int .i64 X.kind, .int .i64 X.sev, .string X.fn, .string X.file, .int .i64 X.line, .string X.expr] 54).mono hall.out.2.2))
              have hT6 := Lib.hid (hall.out.2.1.below (box_below WDk #[.int .i64 X.kind, .int .i64 X.sev, .string X.fn, .string X.file, .int .i64 X.line, .string X.expr] 54))
              have hH6 := Lib.hid (hall.out.1.below (box_below WDk #[.int .i64 X.kind, .int .i64 X.sev, .string X.fn, .string X.file, .int .i64 X.line, .string X.expr] 54) hall.out.1.lt)
              have hs6 := Lib.hid (seesC_lit WDk 54 #[.int .i64 X.kind, .int .i64 X.sev, .string X.fn, .string X.file, .int .i64 X.line, .string X.expr])
              go_simp
              generalize WDk.alloc (.cells #[.int .i64 X.kind, .int .i64 X.sev, .string X.fn, .string X.file, .int .i64 X.line, .string X.expr] 54) = w6k at *
              generalize WDk.heap.size = g6k at *
              refine hK.out _ _ (hx6) (fun hHeld => ?_)
              clear hK K
              try simp only [Act.put, List.setIfInBounds_toArray, List.set_cons_zero, List.set_cons_succ]
              refine wpAnyH_ready (rs := [7]) (by kernel_rfl) (by simp) ?_
              refine AllReadyH.cons (o := ⟨_, _, _, _, _, _⟩) rfl (fun K hK => ?_) AllReadyH.nil
              refine wp_append_fourX w6k (.tmp 175) (.tmp 180) rfl i0 zz Tryz.underlying23 hi0 hz h6 h72 hz6 (by decide) alC_len (by decide) (fun x u hu => alcells_one' x hu) _ _ _ _ _ _ _ _ hT6.out X (some ⟨g6k, 0, none⟩) hs6.out rfl rfl (by omega) ?_
              intro v7 w7k T7 b7
              have hx7 : BelowE [gW] V9.heap.size g0 w7k := hx6.trans (BelowE.of b7)
              obtain ⟨ak, nk, ck, rfl⟩ := own_slice T7.o1
              have hT7 := Lib.hid T7
              have hH7 := Lib.hid (hH6.out.below b7 hl_gW)
              clear T7 b7
              refine hK.out _ _ (hx7) (fun hHeld => ?_)
              clear hK K
              refine wT 8 (v := ?v6) rfl (by kernel_rfl) (fun _ _ _ h => h) ?h6 (by assumption) ?r6
              case h6 => (intro w hSw; (try dsimp only at hSw); go_simp; try with_reducible rfl)
              try simp only [Act.put, List.setIfInBounds_toArray, List.set_cons_zero, List.set_cons_succ]
              refine wpAnyH_ready (rs := [9]) (by kernel_rfl) (by simp) ?_
              refine AllReadyH.cons (o := ⟨_, _, _, _, _, _⟩) rfl (fun K hK => ?_) AllReadyH.nil
              have c9 := hH7.out.cell 1
              have f9 := hH7.out.free 1
              simp at c9
              have hx9 : BelowE [gW] V9.heap.size g0 (w7k.setCell ⟨gW, 1, none⟩ (.slice ak nk ck)) := hx7.setIn (p := ⟨gW, 1, none⟩) (by simp) _
              have hT9 := Lib.hid (hT7.out.belowE ((BelowE.refl [gW] w7k.heap.size w7k).setIn (p := ⟨gW, 1, none⟩) (by simp) (.slice ak nk ck)) (by simp; exact hl_gW))
              have hH9 : Hid (Holds (w7k.setCell ⟨gW, 1, none⟩ (.slice ak nk ck)) gW 28 #[q1, (.slice ak nk ck), .slice none 0 0, .slice none 0 0]) := Lib.hid (by have := hH7.out.set 1 (.slice ak nk ck); simpa using this)
              go_simp
              refine hK.out _ _ (hx9) (fun hHeld => ?_)
              clear hK K
              try simp only [Act.put, List.setIfInBounds_toArray, List.set_cons_zero, List.set_cons_succ]
              refine wpAnyH_done (by kernel_rfl) ?_ _
              have Ek := Lib.hid hx9
              have Tk := Lib.hid hT9.out.swap12
              have Hk := hH9
              clear hHeld hx6 hx7 hx9 hT6 hT7 hT9 hall hH6 hH7 hH9 hs6 c1 c9 f9 xk0 xk1 xk2 xk3 xk4 xk5 hsz
              generalize w7k.setCell ⟨gW, 1, none⟩ (.slice ak nk ck) = Zk at *
              have Bk := Lib.hid (hB.out.trans (bE_below Ek.out hb7.out hg_gW))
              have HNk := Lib.hid (hN1.out.belowE Ek.out hl_gN (by simp; omega))
              clear hF hW1 hN1 hB X1 Ek
              go_upto_region 27 with (fail)
              have xj0 : ∀ W, BelowE [gN] V9.heap.size Zk W → W.cell? ⟨bm, om + i * 6, none⟩ = some (.int .i64 Y.kind) := fun W hW => (X2.out W (Bk.out.trans (bE_below hW (Nat.le_trans hb7.out (Nat.le_refl _)) hg_gN))).1
              have xj1 : ∀ W, BelowE [gN] V9.heap.size Zk W → W.cell? ⟨bm, om + i * 6 + 1, none⟩ = some (.int .i64 Y.sev) := fun W hW => (X2.out W (Bk.out.trans (bE_below hW (Nat.le_trans hb7.out (Nat.le_refl _)) hg_gN))).2.1
              have xj2 : ∀ W, BelowE [gN] V9.heap.size Zk W → W.cell? ⟨bm, om + i * 6 + 2, none⟩ = some (.string Y.fn) := fun W hW => (X2.out W (Bk.out.trans (bE_below hW (Nat.le_trans hb7.out (Nat.le_refl _)) hg_gN))).2.2.1
              have xj3 : ∀ W, BelowE [gN] V9.heap.size Zk W → W.cell? ⟨bm, om + i * 6 + 3, none⟩ = some (.string Y.file) := fun W hW => (X2.out W (Bk.out.trans (bE_below hW (Nat.le_trans hb7.out (Nat.le_refl _)) hg_gN))).2.2.2.1
              have xj4 : ∀ W, BelowE [gN] V9.heap.size Zk W → W.cell? ⟨bm, om + i * 6 + 4, none⟩ = some (.int .i64 Y.line) := fun W hW => (X2.out W (Bk.out.trans (bE_below hW (Nat.le_trans hb7.out (Nat.le_refl _)) hg_gN))).2.2.2.2.1
              have xj5 : ∀ W, BelowE [gN] V9.heap.size Zk W → W.cell? ⟨bm, om + i * 6 + 5, none⟩ = some (.string Y.expr) := fun W hW => (X2.out W (Bk.out.trans (bE_below hW (Nat.le_trans hb7.out (Nat.le_refl _)) hg_gN))).2.2.2.2.2
              have hall := Lib.hid (And.intro (show Holds Zk.drew gN 28 #[q3, q4, .slice none 0 0, .slice none 0 0] from HNk.out.drew) (And.intro (Tk.out.swap14.below (Below.refl _ _).drew) (show V9.heap.size ≤ Zk.drew.heap.size from Tk.out.swap14.b)))
              have hsz : Zk.drew.heap.size = Zk.drew.heap.size := rfl
              refine wp_drawn_on (fun W => BelowE [gN] V9.heap.size Zk W) (by kernel_rfl) ((BelowE.of (Below.refl _ _).drew)) (fun hHeld => ?_)
              generalize Zk.drew = WDj at hsz hall hHeld ⊢
              refine wT 0 (v := ?v15) rfl (by kernel_rfl) (fun _ _ _ h => h) ?h15 (by assumption) ?r15
              case h15 => (intro w hSw; (try dsimp only at hSw); go_simp; try with_reducible rfl)
              refine wT 2 (v := ?v16) rfl (by kernel_rfl) (fun _ _ _ h => h) ?h16 (by assumption) ?r16
              case h16 => (intro w hSw; (try dsimp only at hSw); go_simp; try with_reducible rfl)
              refine wT 3 (v := ?v17) rfl (by kernel_rfl) (fun _ _ _ h => h) ?h17 (by assumption) ?r17
              case h17 => (intro w hSw; (try dsimp only at hSw); go_simp; try with_reducible rfl)
              refine wT 4 (v := ?v18) rfl (by kernel_rfl) (fun _ _ _ h => h) ?h18 (by assumption) ?r18
              case h18 => (intro w hSw; (try dsimp only at hSw); go_simp; try with_reducible rfl)
              refine wT 5 (v := ?v19) rfl (by kernel_rfl) (fun _ _ _ h => h) ?h19 (by assumption) ?r19
              case h19 => (intro w hSw; (try dsimp only at hSw); go_simp; try with_reducible rfl)
              try simp only [Act.put, List.setIfInBounds_toArray, List.set_cons_zero, List.set_cons_succ]
              refine wpAnyH_ready (rs := [1, 6]) (by kernel_rfl) (by simp) ?_
              refine AllReadyH.cons (o := ⟨_, _, _, _, _, _⟩) rfl (fun K hK => ?_) (AllReadyH.cons (o := ⟨_, _, _, _, _, _⟩) rfl (fun K hK => ?_) AllReadyH.nil)
              · first | (have c1 := hH6.out.cell 1; simp at c1) | (have c1 := hall.out.1.cell 1; simp at c1)
                go_simp
                refine hK.out _ _ (hHeld) (fun hHeld => ?_)
                clear hK K
                try simp only [Act.put, List.setIfInBounds_toArray, List.set_cons_zero, List.set_cons_succ]
                refine wpAnyH_ready (rs := [6]) (by kernel_rfl) (by simp) ?_
                refine AllReadyH.cons (o := ⟨_, _, _, _, _, _⟩) rfl (fun K hK => ?_) AllReadyH.nil
                have hx6 := hHeld.trans (BelowE.of (X := [gN]) ((box_below WDj #[.int .i64 Y.kind, .int .i64 Y.sev, .string Y.fn, .string Y.file, .int .i64 Y.line, .string Y.expr] 54).mono hall.out.2.2))
                have hT6 := Lib.hid (hall.out.2.1.below (box_below WDj #[.int .i64 Y.kind, .int .i64 Y.sev, .string Y.fn, .string Y.file, .int .i64 Y.line, .string Y.expr] 54))
                have hH6 := Lib.hid (hall.out.1.below (box_below WDj #[.int .i64 Y.kind, .int .i64 Y.sev, .string Y.fn, .string Y.file, .int .i64 Y.line, .string Y.expr] 54) hall.out.1.lt)
                have hs6 := Lib.hid (seesC_lit WDj 54 #[.int .i64 Y.kind, .int .i64 Y.sev, .string Y.fn, .string Y.file, .int .i64 Y.line, .string Y.expr])
                go_simp
                generalize WDj.alloc (.cells #[.int .i64 Y.kind, .int .i64 Y.sev, .string Y.fn, .string Y.file, .int .i64 Y.line, .string Y.expr] 54) = w6j at *
                generalize WDj.heap.size = g6j at *
                refine hK.out _ _ (hx6) (fun hHeld => ?_)
                clear hK K
                try simp only [Act.put, List.setIfInBounds_toArray, List.set_cons_zero, List.set_cons_succ]
                refine wpAnyH_ready (rs := [7]) (by kernel_rfl) (by simp) ?_
                refine AllReadyH.cons (o := ⟨_, _, _, _, _, _⟩) rfl (fun K hK => ?_) AllReadyH.nil
                refine wp_append_fourX w6j (.tmp 184) (.tmp 189) rfl i0 zz Tryz.underlying23 hi0 hz h6 h72 hz6 (by decide) alC_len (by decide) (fun x u hu => alcells_one' x hu) _ _ _ _ _ _ _ _ hT6.out Y (some ⟨g6j, 0, none⟩) hs6.out rfl rfl (by omega) ?_
                intro v7 w7j T7 b7
                have hx7 : BelowE [gN] V9.heap.size Zk w7j := hx6.trans (BelowE.of b7)
                obtain ⟨aj, nj, cj, rfl⟩ := own_slice T7.o1
                have hT7 := Lib.hid T7
                have hH7 := Lib.hid (hH6.out.below b7 hl_gN)
                clear T7 b7
                refine hK.out _ _ (hx7) (fun hHeld => ?_)
                clear hK K
                refine wT 8 (v := ?v20) rfl (by kernel_rfl) (fun _ _ _ h => h) ?h20 (by assumption) ?r20
                case h20 => (intro w hSw; (try dsimp only at hSw); go_simp; try with_reducible rfl)
                try simp only [Act.put, List.setIfInBounds_toArray, List.set_cons_zero, List.set_cons_succ]
                refine wpAnyH_ready (rs := [9]) (by kernel_rfl) (by simp) ?_
                refine AllReadyH.cons (o := ⟨_, _, _, _, _, _⟩) rfl (fun K hK => ?_) AllReadyH.nil
                have c9 := hH7.out.cell 1
                have f9 := hH7.out.free 1
                simp at c9
                have hx9 : BelowE [gN] V9.heap.size Zk (w7j.setCell ⟨gN, 1, none⟩ (.slice aj nj cj)) := hx7.setIn (p := ⟨gN, 1, none⟩) (by simp) _
                have hT9 := Lib.hid (hT7.out.belowE ((BelowE.refl [gN] w7j.heap.size w7j).setIn (p := ⟨gN, 1, none⟩) (by simp) (.slice aj nj cj)) (by simp; exact hl_gN))
                have hH9 : Hid (Holds (w7j.setCell ⟨gN, 1, none⟩ (.slice aj nj cj)) gN 28 #[q3, (.slice aj nj cj), .slice none 0 0, .slice none 0 0]) := Lib.hid (by have := hH7.out.set 1 (.slice aj nj cj); simpa using this)
                go_simp
                refine hK.out _ _ (hx9) (fun hHeld => ?_)
                clear hK K
                try simp only [Act.put, List.setIfInBounds_toArray, List.set_cons_zero, List.set_cons_succ]
                refine wpAnyH_done (by kernel_rfl) ?_ _
                have Ej := Lib.hid hx9
                have Tj := Lib.hid hT9.out.swap14
                have Hj := hH9
                clear hHeld hx6 hx7 hx9 hT6 hT7 hT9 hall hH6 hH7 hH9 hs6 c1 c9 f9 xj0 xj1 xj2 xj3 xj4 xj5 hsz
                generalize w7j.setCell ⟨gN, 1, none⟩ (.slice aj nj cj) = Zj at *
                have Bj := Lib.hid (Bk.out.trans (bE_below Ej.out hb7.out hg_gN))
                have HWj := Lib.hid (Hk.out.belowE Ej.out hl_gW (by simp; omega))
                clear Hk Tk HNk Bk X2 Ej
                go_wp2
                go_roundw
                case rel => exact ⟨i + 1, q1, (.slice ak nk ck), q3, (.slice aj nj cj), by omega, by go_num, Lib.hid (by rw [e1'.out, e2'.out, e3'.out, e4'.out]; exact Tj.out), HWj, Hj, Bj⟩
                case measure => simp [intOf]; omega
              · have hx6 := hHeld.trans (BelowE.of (X := [gN]) ((box_below WDj #[.int .i64 Y.kind, .int .i64 Y.sev, .string Y.fn, .string Y.file, .int .i64 Y.line, .string Y.expr] 54).mono hall.out.2.2))
                have hT6 := Lib.hid (hall.out.2.1.below (box_below WDj #[.int .i64 Y.kind, .int .i64 Y.sev, .string Y.fn, .string Y.file, .int .i64 Y.line, .string Y.expr] 54))
                have hH6 := Lib.hid (hall.out.1.below (box_below WDj #[.int .i64 Y.kind, .int .i64 Y.sev, .string Y.fn, .string Y.file, .int .i64 Y.line, .string Y.expr] 54) hall.out.1.lt)
                have hs6 := Lib.hid (seesC_lit WDj 54 #[.int .i64 Y.kind, .int .i64 Y.sev, .string Y.fn, .string Y.file, .int .i64 Y.line, .string Y.expr])
                go_simp
                generalize WDj.alloc (.cells #[.int .i64 Y.kind, .int .i64 Y.sev, .string Y.fn, .string Y.file, .int .i64 Y.line, .string Y.expr] 54) = w6j at *
                generalize WDj.heap.size = g6j at *
                refine hK.out _ _ (hx6) (fun hHeld => ?_)
                clear hK K
                try simp only [Act.put, List.setIfInBounds_toArray, List.set_cons_zero, List.set_cons_succ]
                refine wpAnyH_ready (rs := [1]) (by kernel_rfl) (by simp) ?_
                refine AllReadyH.cons (o := ⟨_, _, _, _, _, _⟩) rfl (fun K hK => ?_) AllReadyH.nil
                first | (have c1 := hH6.out.cell 1; simp at c1) | (have c1 := hall.out.1.cell 1; simp at c1)
                go_simp
                refine hK.out _ _ (hHeld) (fun hHeld => ?_)
                clear hK K
                try simp only [Act.put, List.setIfInBounds_toArray, List.set_cons_zero, List.set_cons_succ]
                refine wpAnyH_ready (rs := [7]) (by kernel_rfl) (by simp) ?_
                refine AllReadyH.cons (o := ⟨_, _, _, _, _, _⟩) rfl (fun K hK => ?_) AllReadyH.nil
                refine wp_append_fourX w6j (.tmp 184) (.tmp 189) rfl i0 zz Tryz.underlying23 hi0 hz h6 h72 hz6 (by decide) alC_len (by decide) (fun x u hu => alcells_one' x hu) _ _ _ _ _ _ _ _ hT6.out Y (some ⟨g6j, 0, none⟩) hs6.out rfl rfl (by omega) ?_
                intro v7 w7j T7 b7
                have hx7 : BelowE [gN] V9.heap.size Zk w7j := hx6.trans (BelowE.of b7)
                obtain ⟨aj, nj, cj, rfl⟩ := own_slice T7.o1
                have hT7 := Lib.hid T7
                have hH7 := Lib.hid (hH6.out.below b7 hl_gN)
                clear T7 b7
                refine hK.out _ _ (hx7) (fun hHeld => ?_)
                clear hK K
                refine wT 8 (v := ?v21) rfl (by kernel_rfl) (fun _ _ _ h => h) ?h21 (by assumption) ?r21
                case h21 => (intro w hSw; (try dsimp only at hSw); go_simp; try with_reducible rfl)
                try simp only [Act.put, List.setIfInBounds_toArray, List.set_cons_zero, List.set_cons_succ]
                refine wpAnyH_ready (rs := [9]) (by kernel_rfl) (by simp) ?_
                refine AllReadyH.cons (o := ⟨_, _, _, _, _, _⟩) rfl (fun K hK => ?_) AllReadyH.nil
                have c9 := hH7.out.cell 1
                have f9 := hH7.out.free 1
                simp at c9
                have hx9 : BelowE [gN] V9.heap.size Zk (w7j.setCell ⟨gN, 1, none⟩ (.slice aj nj cj)) := hx7.setIn (p := ⟨gN, 1, none⟩) (by simp) _
                have hT9 := Lib.hid (hT7.out.belowE ((BelowE.refl [gN] w7j.heap.size w7j).setIn (p := ⟨gN, 1, none⟩) (by simp) (.slice aj nj cj)) (by simp; exact hl_gN))
                have hH9 : Hid (Holds (w7j.setCell ⟨gN, 1, none⟩ (.slice aj nj cj)) gN 28 #[q3, (.slice aj nj cj), .slice none 0 0, .slice none 0 0]) := Lib.hid (by have := hH7.out.set 1 (.slice aj nj cj); simpa using this)
                go_simp
                refine hK.out _ _ (hx9) (fun hHeld => ?_)
                clear hK K
                try simp only [Act.put, List.setIfInBounds_toArray, List.set_cons_zero, List.set_cons_succ]
                refine wpAnyH_done (by kernel_rfl) ?_ _
                have Ej := Lib.hid hx9
                have Tj := Lib.hid hT9.out.swap14
                have Hj := hH9
                clear hHeld hx6 hx7 hx9 hT6 hT7 hT9 hall hH6 hH7 hH9 hs6 c1 c9 f9 xj0 xj1 xj2 xj3 xj4 xj5 hsz
                generalize w7j.setCell ⟨gN, 1, none⟩ (.slice aj nj cj) = Zj at *
                have Bj := Lib.hid (Bk.out.trans (bE_below Ej.out hb7.out hg_gN))
                have HWj := Lib.hid (Hk.out.belowE Ej.out hl_gW (by simp; omega))
                clear Hk Tk HNk Bk X2 Ej
                go_wp2
                go_roundw
                case rel => exact ⟨i + 1, q1, (.slice ak nk ck), q3, (.slice aj nj cj), by omega, by go_num, Lib.hid (by rw [e1'.out, e2'.out, e3'.out, e4'.out]; exact Tj.out), HWj, Hj, Bj⟩
                case measure => simp [intOf]; omega
            · have hx6 := hHeld.trans (BelowE.of (X := [gW]) ((box_below WDk #[.int .i64 X.kind, .int .i64 X.sev, .string X.fn, .string X.file, .int .i64 X.line, .string X.expr] 54).mono hall.out.2.2))
              have hT6 := Lib.hid (hall.out.2.1.below (box_below WDk #[.int .i64 X.kind, .int .i64 X.sev, .string X.fn, .string X.file, .int .i64 X.line, .string X.expr] 54))
              have hH6 := Lib.hid (hall.out.1.below (box_below WDk #[.int .i64 X.kind, .int .i64 X.sev, .string X.fn, .string X.file, .int .i64 X.line, .string X.expr] 54) hall.out.1.lt)
              have hs6 := Lib.hid (seesC_lit WDk 54 #[.int .i64 X.kind, .int .i64 X.sev, .string X.fn, .string X.file, .int .i64 X.line, .string X.expr])
              go_simp
              generalize WDk.alloc (.cells #[.int .i64 X.kind, .int .i64 X.sev, .string X.fn, .string X.file, .int .i64 X.line, .string X.expr] 54) = w6k at *
              generalize WDk.heap.size = g6k at *
              refine hK.out _ _ (hx6) (fun hHeld => ?_)
              clear hK K
              try simp only [Act.put, List.setIfInBounds_toArray, List.set_cons_zero, List.set_cons_succ]
              refine wpAnyH_ready (rs := [1]) (by kernel_rfl) (by simp) ?_
              refine AllReadyH.cons (o := ⟨_, _, _, _, _, _⟩) rfl (fun K hK => ?_) AllReadyH.nil
              first | (have c1 := hH6.out.cell 1; simp at c1) | (have c1 := hall.out.1.cell 1; simp at c1)
              go_simp
              refine hK.out _ _ (hHeld) (fun hHeld => ?_)
              clear hK K
              try simp only [Act.put, List.setIfInBounds_toArray, List.set_cons_zero, List.set_cons_succ]
              refine wpAnyH_ready (rs := [7]) (by kernel_rfl) (by simp) ?_
              refine AllReadyH.cons (o := ⟨_, _, _, _, _, _⟩) rfl (fun K hK => ?_) AllReadyH.nil
              refine wp_append_fourX w6k (.tmp 175) (.tmp 180) rfl i0 zz Tryz.underlying23 hi0 hz h6 h72 hz6 (by decide) alC_len (by decide) (fun x u hu => alcells_one' x hu) _ _ _ _ _ _ _ _ hT6.out X (some ⟨g6k, 0, none⟩) hs6.out rfl rfl (by omega) ?_
              intro v7 w7k T7 b7
              have hx7 : BelowE [gW] V9.heap.size g0 w7k := hx6.trans (BelowE.of b7)
              obtain ⟨ak, nk, ck, rfl⟩ := own_slice T7.o1
              have hT7 := Lib.hid T7
              have hH7 := Lib.hid (hH6.out.below b7 hl_gW)
              clear T7 b7
              refine hK.out _ _ (hx7) (fun hHeld => ?_)
              clear hK K
              refine wT 8 (v := ?v7) rfl (by kernel_rfl) (fun _ _ _ h => h) ?h7 (by assumption) ?r7
              case h7 => (intro w hSw; (try dsimp only at hSw); go_simp; try with_reducible rfl)
              try simp only [Act.put, List.setIfInBounds_toArray, List.set_cons_zero, List.set_cons_succ]
              refine wpAnyH_ready (rs := [9]) (by kernel_rfl) (by simp) ?_
              refine AllReadyH.cons (o := ⟨_, _, _, _, _, _⟩) rfl (fun K hK => ?_) AllReadyH.nil
              have c9 := hH7.out.cell 1
              have f9 := hH7.out.free 1
              simp at c9
              have hx9 : BelowE [gW] V9.heap.size g0 (w7k.setCell ⟨gW, 1, none⟩ (.slice ak nk ck)) := hx7.setIn (p := ⟨gW, 1, none⟩) (by simp) _
              have hT9 := Lib.hid (hT7.out.belowE ((BelowE.refl [gW] w7k.heap.size w7k).setIn (p := ⟨gW, 1, none⟩) (by simp) (.slice ak nk ck)) (by simp; exact hl_gW))
              have hH9 : Hid (Holds (w7k.setCell ⟨gW, 1, none⟩ (.slice ak nk ck)) gW 28 #[q1, (.slice ak nk ck), .slice none 0 0, .slice none 0 0]) := Lib.hid (by have := hH7.out.set 1 (.slice ak nk ck); simpa using this)
              go_simp
              refine hK.out _ _ (hx9) (fun hHeld => ?_)
              clear hK K
              try simp only [Act.put, List.setIfInBounds_toArray, List.set_cons_zero, List.set_cons_succ]
              refine wpAnyH_done (by kernel_rfl) ?_ _
              have Ek := Lib.hid hx9
              have Tk := Lib.hid hT9.out.swap12
              have Hk := hH9
              clear hHeld hx6 hx7 hx9 hT6 hT7 hT9 hall hH6 hH7 hH9 hs6 c1 c9 f9 xk0 xk1 xk2 xk3 xk4 xk5 hsz
              generalize w7k.setCell ⟨gW, 1, none⟩ (.slice ak nk ck) = Zk at *
              have Bk := Lib.hid (hB.out.trans (bE_below Ek.out hb7.out hg_gW))
              have HNk := Lib.hid (hN1.out.belowE Ek.out hl_gN (by simp; omega))
              clear hF hW1 hN1 hB X1 Ek
              go_upto_region 27 with (fail)
              have xj0 : ∀ W, BelowE [gN] V9.heap.size Zk W → W.cell? ⟨bm, om + i * 6, none⟩ = some (.int .i64 Y.kind) := fun W hW => (X2.out W (Bk.out.trans (bE_below hW (Nat.le_trans hb7.out (Nat.le_refl _)) hg_gN))).1
              have xj1 : ∀ W, BelowE [gN] V9.heap.size Zk W → W.cell? ⟨bm, om + i * 6 + 1, none⟩ = some (.int .i64 Y.sev) := fun W hW => (X2.out W (Bk.out.trans (bE_below hW (Nat.le_trans hb7.out (Nat.le_refl _)) hg_gN))).2.1
              have xj2 : ∀ W, BelowE [gN] V9.heap.size Zk W → W.cell? ⟨bm, om + i * 6 + 2, none⟩ = some (.string Y.fn) := fun W hW => (X2.out W (Bk.out.trans (bE_below hW (Nat.le_trans hb7.out (Nat.le_refl _)) hg_gN))).2.2.1
              have xj3 : ∀ W, BelowE [gN] V9.heap.size Zk W → W.cell? ⟨bm, om + i * 6 + 3, none⟩ = some (.string Y.file) := fun W hW => (X2.out W (Bk.out.trans (bE_below hW (Nat.le_trans hb7.out (Nat.le_refl _)) hg_gN))).2.2.2.1
              have xj4 : ∀ W, BelowE [gN] V9.heap.size Zk W → W.cell? ⟨bm, om + i * 6 + 4, none⟩ = some (.int .i64 Y.line) := fun W hW => (X2.out W (Bk.out.trans (bE_below hW (Nat.le_trans hb7.out (Nat.le_refl _)) hg_gN))).2.2.2.2.1
              have xj5 : ∀ W, BelowE [gN] V9.heap.size Zk W → W.cell? ⟨bm, om + i * 6 + 5, none⟩ = some (.string Y.expr) := fun W hW => (X2.out W (Bk.out.trans (bE_below hW (Nat.le_trans hb7.out (Nat.le_refl _)) hg_gN))).2.2.2.2.2
              have hall := Lib.hid (And.intro (show Holds Zk.drew gN 28 #[q3, q4, .slice none 0 0, .slice none 0 0] from HNk.out.drew) (And.intro (Tk.out.swap14.below (Below.refl _ _).drew) (show V9.heap.size ≤ Zk.drew.heap.size from Tk.out.swap14.b)))
              have hsz : Zk.drew.heap.size = Zk.drew.heap.size := rfl
              refine wp_drawn_on (fun W => BelowE [gN] V9.heap.size Zk W) (by kernel_rfl) ((BelowE.of (Below.refl _ _).drew)) (fun hHeld => ?_)
              generalize Zk.drew = WDj at hsz hall hHeld ⊢
              refine wT 0 (v := ?v22) rfl (by kernel_rfl) (fun _ _ _ h => h) ?h22 (by assumption) ?r22
              case h22 => (intro w hSw; (try dsimp only at hSw); go_simp; try with_reducible rfl)
              refine wT 2 (v := ?v23) rfl (by kernel_rfl) (fun _ _ _ h => h) ?h23 (by assumption) ?r23
              case h23 => (intro w hSw; (try dsimp only at hSw); go_simp; try with_reducible rfl)
              refine wT 3 (v := ?v24) rfl (by kernel_rfl) (fun _ _ _ h => h) ?h24 (by assumption) ?r24
              case h24 => (intro w hSw; (try dsimp only at hSw); go_simp; try with_reducible rfl)
              refine wT 4 (v := ?v25) rfl (by kernel_rfl) (fun _ _ _ h => h) ?h25 (by assumption) ?r25
              case h25 => (intro w hSw; (try dsimp only at hSw); go_simp; try with_reducible rfl)
              refine wT 5 (v := ?v26) rfl (by kernel_rfl) (fun _ _ _ h => h) ?h26 (by assumption) ?r26
              case h26 => (intro w hSw; (try dsimp only at hSw); go_simp; try with_reducible rfl)
              try simp only [Act.put, List.setIfInBounds_toArray, List.set_cons_zero, List.set_cons_succ]
              refine wpAnyH_ready (rs := [1, 6]) (by kernel_rfl) (by simp) ?_
              refine AllReadyH.cons (o := ⟨_, _, _, _, _, _⟩) rfl (fun K hK => ?_) (AllReadyH.cons (o := ⟨_, _, _, _, _, _⟩) rfl (fun K hK => ?_) AllReadyH.nil)
              · first | (have c1 := hH6.out.cell 1; simp at c1) | (have c1 := hall.out.1.cell 1; simp at c1)
                go_simp
                refine hK.out _ _ (hHeld) (fun hHeld => ?_)
                clear hK K
                try simp only [Act.put, List.setIfInBounds_toArray, List.set_cons_zero, List.set_cons_succ]
                refine wpAnyH_ready (rs := [6]) (by kernel_rfl) (by simp) ?_
                refine AllReadyH.cons (o := ⟨_, _, _, _, _, _⟩) rfl (fun K hK => ?_) AllReadyH.nil
                have hx6 := hHeld.trans (BelowE.of (X := [gN]) ((box_below WDj #[.int .i64 Y.kind, .int .i64 Y.sev, .string Y.fn, .string Y.file, .int .i64 Y.line, .string Y.expr] 54).mono hall.out.2.2))
                have hT6 := Lib.hid (hall.out.2.1.below (box_below WDj #[.int .i64 Y.kind, .int .i64 Y.sev, .string Y.fn, .string Y.file, .int .i64 Y.line, .string Y.expr] 54))
                have hH6 := Lib.hid (hall.out.1.below (box_below WDj #[.int .i64 Y.kind, .int .i64 Y.sev, .string Y.fn, .string Y.file, .int .i64 Y.line, .string Y.expr] 54) hall.out.1.lt)
                have hs6 := Lib.hid (seesC_lit WDj 54 #[.int .i64 Y.kind, .int .i64 Y.sev, .string Y.fn, .string Y.file, .int .i64 Y.line, .string Y.expr])
                go_simp
                generalize WDj.alloc (.cells #[.int .i64 Y.kind, .int .i64 Y.sev, .string Y.fn, .string Y.file, .int .i64 Y.line, .string Y.expr] 54) = w6j at *
                generalize WDj.heap.size = g6j at *
                refine hK.out _ _ (hx6) (fun hHeld => ?_)
                clear hK K
                try simp only [Act.put, List.setIfInBounds_toArray, List.set_cons_zero, List.set_cons_succ]
                refine wpAnyH_ready (rs := [7]) (by kernel_rfl) (by simp) ?_
                refine AllReadyH.cons (o := ⟨_, _, _, _, _, _⟩) rfl (fun K hK => ?_) AllReadyH.nil
                refine wp_append_fourX w6j (.tmp 184) (.tmp 189) rfl i0 zz Tryz.underlying23 hi0 hz h6 h72 hz6 (by decide) alC_len (by decide) (fun x u hu => alcells_one' x hu) _ _ _ _ _ _ _ _ hT6.out Y (some ⟨g6j, 0, none⟩) hs6.out rfl rfl (by omega) ?_
                intro v7 w7j T7 b7
                have hx7 : BelowE [gN] V9.heap.size Zk w7j := hx6.trans (BelowE.of b7)
                obtain ⟨aj, nj, cj, rfl⟩ := own_slice T7.o1
                have hT7 := Lib.hid T7
                have hH7 := Lib.hid (hH6.out.below b7 hl_gN)
                clear T7 b7
                refine hK.out _ _ (hx7) (fun hHeld => ?_)
                clear hK K
                refine wT 8 (v := ?v27) rfl (by kernel_rfl) (fun _ _ _ h => h) ?h27 (by assumption) ?r27
                case h27 => (intro w hSw; (try dsimp only at hSw); go_simp; try with_reducible rfl)
                try simp only [Act.put, List.setIfInBounds_toArray, List.set_cons_zero, List.set_cons_succ]
                refine wpAnyH_ready (rs := [9]) (by kernel_rfl) (by simp) ?_
                refine AllReadyH.cons (o := ⟨_, _, _, _, _, _⟩) rfl (fun K hK => ?_) AllReadyH.nil
                have c9 := hH7.out.cell 1
                have f9 := hH7.out.free 1
                simp at c9
                have hx9 : BelowE [gN] V9.heap.size Zk (w7j.setCell ⟨gN, 1, none⟩ (.slice aj nj cj)) := hx7.setIn (p := ⟨gN, 1, none⟩) (by simp) _
                have hT9 := Lib.hid (hT7.out.belowE ((BelowE.refl [gN] w7j.heap.size w7j).setIn (p := ⟨gN, 1, none⟩) (by simp) (.slice aj nj cj)) (by simp; exact hl_gN))
                have hH9 : Hid (Holds (w7j.setCell ⟨gN, 1, none⟩ (.slice aj nj cj)) gN 28 #[q3, (.slice aj nj cj), .slice none 0 0, .slice none 0 0]) := Lib.hid (by have := hH7.out.set 1 (.slice aj nj cj); simpa using this)
                go_simp
                refine hK.out _ _ (hx9) (fun hHeld => ?_)
                clear hK K
                try simp only [Act.put, List.setIfInBounds_toArray, List.set_cons_zero, List.set_cons_succ]
                refine wpAnyH_done (by kernel_rfl) ?_ _
                have Ej := Lib.hid hx9
                have Tj := Lib.hid hT9.out.swap14
                have Hj := hH9
                clear hHeld hx6 hx7 hx9 hT6 hT7 hT9 hall hH6 hH7 hH9 hs6 c1 c9 f9 xj0 xj1 xj2 xj3 xj4 xj5 hsz
                generalize w7j.setCell ⟨gN, 1, none⟩ (.slice aj nj cj) = Zj at *
                have Bj := Lib.hid (Bk.out.trans (bE_below Ej.out hb7.out hg_gN))
                have HWj := Lib.hid (Hk.out.belowE Ej.out hl_gW (by simp; omega))
                clear Hk Tk HNk Bk X2 Ej
                go_wp2
                go_roundw
                case rel => exact ⟨i + 1, q1, (.slice ak nk ck), q3, (.slice aj nj cj), by omega, by go_num, Lib.hid (by rw [e1'.out, e2'.out, e3'.out, e4'.out]; exact Tj.out), HWj, Hj, Bj⟩
                case measure => simp [intOf]; omega
              · have hx6 := hHeld.trans (BelowE.of (X := [gN]) ((box_below WDj #[.int .i64 Y.kind, .int .i64 Y.sev, .string Y.fn, .string Y.file, .int .i64 Y.line, .string Y.expr] 54).mono hall.out.2.2))
                have hT6 := Lib.hid (hall.out.2.1.below (box_below WDj #[.int .i64 Y.kind, .int .i64 Y.sev, .string Y.fn, .string Y.file, .int .i64 Y.line, .string Y.expr] 54))
                have hH6 := Lib.hid (hall.out.1.below (box_below WDj #[.int .i64 Y.kind, .int .i64 Y.sev, .string Y.fn, .string Y.file, .int .i64 Y.line, .string Y.expr] 54) hall.out.1.lt)
                have hs6 := Lib.hid (seesC_lit WDj 54 #[.int .i64 Y.kind, .int .i64 Y.sev, .string Y.fn, .string Y.file, .int .i64 Y.line, .string Y.expr])
                go_simp
                generalize WDj.alloc (.cells #[.int .i64 Y.kind, .int .i64 Y.sev, .string Y.fn, .string Y.file, .int .i64 Y.line, .string Y.expr] 54) = w6j at *
                generalize WDj.heap.size = g6j at *
                refine hK.out _ _ (hx6) (fun hHeld => ?_)
                clear hK K
                try simp only [Act.put, List.setIfInBounds_toArray, List.set_cons_zero, List.set_cons_succ]
                refine wpAnyH_ready (rs := [1]) (by kernel_rfl) (by simp) ?_
                refine AllReadyH.cons (o := ⟨_, _, _, _, _, _⟩) rfl (fun K hK => ?_) AllReadyH.nil
                first | (have c1 := hH6.out.cell 1; simp at c1) | (have c1 := hall.out.1.cell 1; simp at c1)
                go_simp
                refine hK.out _ _ (hHeld) (fun hHeld => ?_)
                clear hK K
                try simp only [Act.put, List.setIfInBounds_toArray, List.set_cons_zero, List.set_cons_succ]
                refine wpAnyH_ready (rs := [7]) (by kernel_rfl) (by simp) ?_
                refine AllReadyH.cons (o := ⟨_, _, _, _, _, _⟩) rfl (fun K hK => ?_) AllReadyH.nil
                refine wp_append_fourX w6j (.tmp 184) (.tmp 189) rfl i0 zz Tryz.underlying23 hi0 hz h6 h72 hz6 (by decide) alC_len (by decide) (fun x u hu => alcells_one' x hu) _ _ _ _ _ _ _ _ hT6.out Y (some ⟨g6j, 0, none⟩) hs6.out rfl rfl (by omega) ?_
                intro v7 w7j T7 b7
                have hx7 : BelowE [gN] V9.heap.size Zk w7j := hx6.trans (BelowE.of b7)
                obtain ⟨aj, nj, cj, rfl⟩ := own_slice T7.o1
                have hT7 := Lib.hid T7
                have hH7 := Lib.hid (hH6.out.below b7 hl_gN)
                clear T7 b7
                refine hK.out _ _ (hx7) (fun hHeld => ?_)
                clear hK K
                refine wT 8 (v := ?v28) rfl (by kernel_rfl) (fun _ _ _ h => h) ?h28 (by assumption) ?r28
                case h28 => (intro w hSw; (try dsimp only at hSw); go_simp; try with_reducible rfl)
                try simp only [Act.put, List.setIfInBounds_toArray, List.set_cons_zero, List.set_cons_succ]
                refine wpAnyH_ready (rs := [9]) (by kernel_rfl) (by simp) ?_
                refine AllReadyH.cons (o := ⟨_, _, _, _, _, _⟩) rfl (fun K hK => ?_) AllReadyH.nil
                have c9 := hH7.out.cell 1
                have f9 := hH7.out.free 1
                simp at c9
                have hx9 : BelowE [gN] V9.heap.size Zk (w7j.setCell ⟨gN, 1, none⟩ (.slice aj nj cj)) := hx7.setIn (p := ⟨gN, 1, none⟩) (by simp) _
                have hT9 := Lib.hid (hT7.out.belowE ((BelowE.refl [gN] w7j.heap.size w7j).setIn (p := ⟨gN, 1, none⟩) (by simp) (.slice aj nj cj)) (by simp; exact hl_gN))
                have hH9 : Hid (Holds (w7j.setCell ⟨gN, 1, none⟩ (.slice aj nj cj)) gN 28 #[q3, (.slice aj nj cj), .slice none 0 0, .slice none 0 0]) := Lib.hid (by have := hH7.out.set 1 (.slice aj nj cj); simpa using this)
                go_simp
                refine hK.out _ _ (hx9) (fun hHeld => ?_)
                clear hK K
                try simp only [Act.put, List.setIfInBounds_toArray, List.set_cons_zero, List.set_cons_succ]
                refine wpAnyH_done (by kernel_rfl) ?_ _
                have Ej := Lib.hid hx9
                have Tj := Lib.hid hT9.out.swap14
                have Hj := hH9
                clear hHeld hx6 hx7 hx9 hT6 hT7 hT9 hall hH6 hH7 hH9 hs6 c1 c9 f9 xj0 xj1 xj2 xj3 xj4 xj5 hsz
                generalize w7j.setCell ⟨gN, 1, none⟩ (.slice aj nj cj) = Zj at *
                have Bj := Lib.hid (Bk.out.trans (bE_below Ej.out hb7.out hg_gN))
                have HWj := Lib.hid (Hk.out.belowE Ej.out hl_gW (by simp; omega))
                clear Hk Tk HNk Bk X2 Ej
                go_wp2
                go_roundw
                case rel => exact ⟨i + 1, q1, (.slice ak nk ck), q3, (.slice aj nj cj), by omega, by go_num, Lib.hid (by rw [e1'.out, e2'.out, e3'.out, e4'.out]; exact Tj.out), HWj, Hj, Bj⟩
                case measure => simp [intOf]; omega
          · obtain ⟨e1, e2⟩ := hyes.out hE
            obtain ⟨e3, e4⟩ := myes.out hE
            have e1' := Lib.hid e1
            have e2' := Lib.hid e2
            have e3' := Lib.hid e3
            have e4' := Lib.hid e4
            have hq1 := hla.out true
            have hq2 := hlm.out true
            clear e1 e2 e3 e4 hyes hno myes mno hE hla hlm
            go_upto_region 24 with (fail)
            have xk0 : ∀ W, BelowE [gW] V9.heap.size g0 W → W.cell? ⟨b, off + i * 6, none⟩ = some (.int .i64 X.kind) := fun W hW => (X1.out W (hB.out.trans (bE_below hW (Nat.le_trans hb7.out (Nat.le_refl _)) hg_gW))).1
            have xk1 : ∀ W, BelowE [gW] V9.heap.size g0 W → W.cell? ⟨b, off + i * 6 + 1, none⟩ = some (.int .i64 X.sev) := fun W hW => (X1.out W (hB.out.trans (bE_below hW (Nat.le_trans hb7.out (Nat.le_refl _)) hg_gW))).2.1
            have xk2 : ∀ W, BelowE [gW] V9.heap.size g0 W → W.cell? ⟨b, off + i * 6 + 2, none⟩ = some (.string X.fn) := fun W hW => (X1.out W (hB.out.trans (bE_below hW (Nat.le_trans hb7.out (Nat.le_refl _)) hg_gW))).2.2.1
            have xk3 : ∀ W, BelowE [gW] V9.heap.size g0 W → W.cell? ⟨b, off + i * 6 + 3, none⟩ = some (.string X.file) := fun W hW => (X1.out W (hB.out.trans (bE_below hW (Nat.le_trans hb7.out (Nat.le_refl _)) hg_gW))).2.2.2.1
            have xk4 : ∀ W, BelowE [gW] V9.heap.size g0 W → W.cell? ⟨b, off + i * 6 + 4, none⟩ = some (.int .i64 X.line) := fun W hW => (X1.out W (hB.out.trans (bE_below hW (Nat.le_trans hb7.out (Nat.le_refl _)) hg_gW))).2.2.2.2.1
            have xk5 : ∀ W, BelowE [gW] V9.heap.size g0 W → W.cell? ⟨b, off + i * 6 + 5, none⟩ = some (.string X.expr) := fun W hW => (X1.out W (hB.out.trans (bE_below hW (Nat.le_trans hb7.out (Nat.le_refl _)) hg_gW))).2.2.2.2.2
            have hall := Lib.hid (And.intro (show Holds g0.drew gW 28 #[q1, q2, .slice none 0 0, .slice none 0 0] from hW1.out.drew) (And.intro (hF.out.below (Below.refl _ _).drew) (show V9.heap.size ≤ g0.drew.heap.size from hF.out.b)))
            have hsz : g0.drew.heap.size = g0.drew.heap.size := rfl
            refine wp_drawn_on (fun W => BelowE [gW] V9.heap.size g0 W) (by kernel_rfl) ((BelowE.of (Below.refl _ _).drew)) (fun hHeld => ?_)
            generalize g0.drew = WDk at hsz hall hHeld ⊢
            refine wT 0 (v := ?v8) rfl (by kernel_rfl) (fun _ _ _ h => h) ?h8 (by assumption) ?r8
            case h8 => (intro w hSw; (try dsimp only at hSw); go_simp; try with_reducible rfl)
            refine wT 2 (v := ?v9) rfl (by kernel_rfl) (fun _ _ _ h => h) ?h9 (by assumption) ?r9
            case h9 => (intro w hSw; (try dsimp only at hSw); go_simp; try with_reducible rfl)
            refine wT 3 (v := ?v10) rfl (by kernel_rfl) (fun _ _ _ h => h) ?h10 (by assumption) ?r10
            case h10 => (intro w hSw; (try dsimp only at hSw); go_simp; try with_reducible rfl)
            refine wT 4 (v := ?v11) rfl (by kernel_rfl) (fun _ _ _ h => h) ?h11 (by assumption) ?r11
            case h11 => (intro w hSw; (try dsimp only at hSw); go_simp; try with_reducible rfl)
            refine wT 5 (v := ?v12) rfl (by kernel_rfl) (fun _ _ _ h => h) ?h12 (by assumption) ?r12
            case h12 => (intro w hSw; (try dsimp only at hSw); go_simp; try with_reducible rfl)
            try simp only [Act.put, List.setIfInBounds_toArray, List.set_cons_zero, List.set_cons_succ]
            refine wpAnyH_ready (rs := [1, 6]) (by kernel_rfl) (by simp) ?_
            refine AllReadyH.cons (o := ⟨_, _, _, _, _, _⟩) rfl (fun K hK => ?_) (AllReadyH.cons (o := ⟨_, _, _, _, _, _⟩) rfl (fun K hK => ?_) AllReadyH.nil)
            · first | (have c1 := hH6.out.cell 0; simp at c1) | (have c1 := hall.out.1.cell 0; simp at c1)
              go_simp
              refine hK.out _ _ (hHeld) (fun hHeld => ?_)
              clear hK K
              try simp only [Act.put, List.setIfInBounds_toArray, List.set_cons_zero, List.set_cons_succ]
              refine wpAnyH_ready (rs := [6]) (by kernel_rfl) (by simp) ?_
              refine AllReadyH.cons (o := ⟨_, _, _, _, _, _⟩) rfl (fun K hK => ?_) AllReadyH.nil
              have hx6 := hHeld.trans (BelowE.of (X := [gW]) ((box_below WDk #[.int .i64 X.kind, .int .i64 X.sev, .string X.fn, .string X.file, .int .i64 X.line, .string X.expr] 54).mono hall.out.2.2))
              have hT6 := Lib.hid (hall.out.2.1.below (box_below WDk #[.int .i64 X.kind, .int .i64 X.sev, .string X.fn, .string X.file, .int .i64 X.line, .string X.expr] 54))
              have hH6 := Lib.hid (hall.out.1.below (box_below WDk #[.int .i64 X.kind, .int .i64 X.sev, .string X.fn, .string X.file, .int .i64 X.line, .string X.expr] 54) hall.out.1.lt)
              have hs6 := Lib.hid (seesC_lit WDk 54 #[.int .i64 X.kind, .int .i64 X.sev, .string X.fn, .string X.file, .int .i64 X.line, .string X.expr])
              go_simp
              generalize WDk.alloc (.cells #[.int .i64 X.kind, .int .i64 X.sev, .string X.fn, .string X.file, .int .i64 X.line, .string X.expr] 54) = w6k at *
              generalize WDk.heap.size = g6k at *
              refine hK.out _ _ (hx6) (fun hHeld => ?_)
              clear hK K
              try simp only [Act.put, List.setIfInBounds_toArray, List.set_cons_zero, List.set_cons_succ]
              refine wpAnyH_ready (rs := [7]) (by kernel_rfl) (by simp) ?_
              refine AllReadyH.cons (o := ⟨_, _, _, _, _, _⟩) rfl (fun K hK => ?_) AllReadyH.nil
              refine wp_append_fourX w6k (.tmp 157) (.tmp 162) rfl i0 zz Tryz.underlying23 hi0 hz h6 h72 hz6 (by decide) alC_len (by decide) (fun x u hu => alcells_one' x hu) _ _ _ _ _ _ _ _ hT6.out X (some ⟨g6k, 0, none⟩) hs6.out rfl rfl (by omega) ?_
              intro v7 w7k T7 b7
              have hx7 : BelowE [gW] V9.heap.size g0 w7k := hx6.trans (BelowE.of b7)
              obtain ⟨ak, nk, ck, rfl⟩ := own_slice T7.o1
              have hT7 := Lib.hid T7
              have hH7 := Lib.hid (hH6.out.below b7 hl_gW)
              clear T7 b7
              refine hK.out _ _ (hx7) (fun hHeld => ?_)
              clear hK K
              refine wT 8 (v := ?v13) rfl (by kernel_rfl) (fun _ _ _ h => h) ?h13 (by assumption) ?r13
              case h13 => (intro w hSw; (try dsimp only at hSw); go_simp; try with_reducible rfl)
              try simp only [Act.put, List.setIfInBounds_toArray, List.set_cons_zero, List.set_cons_succ]
              refine wpAnyH_ready (rs := [9]) (by kernel_rfl) (by simp) ?_
              refine AllReadyH.cons (o := ⟨_, _, _, _, _, _⟩) rfl (fun K hK => ?_) AllReadyH.nil
              have c9 := hH7.out.cell 0
              have f9 := hH7.out.free 0
              simp at c9
              have hx9 : BelowE [gW] V9.heap.size g0 (w7k.setCell ⟨gW, 0, none⟩ (.slice ak nk ck)) := hx7.setIn (p := ⟨gW, 0, none⟩) (by simp) _
              have hT9 := Lib.hid (hT7.out.belowE ((BelowE.refl [gW] w7k.heap.size w7k).setIn (p := ⟨gW, 0, none⟩) (by simp) (.slice ak nk ck)) (by simp; exact hl_gW))
              have hH9 : Hid (Holds (w7k.setCell ⟨gW, 0, none⟩ (.slice ak nk ck)) gW 28 #[(.slice ak nk ck), q2, .slice none 0 0, .slice none 0 0]) := Lib.hid (by have := hH7.out.set 0 (.slice ak nk ck); simpa using this)
              go_simp
              refine hK.out _ _ (hx9) (fun hHeld => ?_)
              clear hK K
              try simp only [Act.put, List.setIfInBounds_toArray, List.set_cons_zero, List.set_cons_succ]
              refine wpAnyH_done (by kernel_rfl) ?_ _
              have Ek := Lib.hid hx9
              have Tk := Lib.hid hT9.out
              have Hk := hH9
              clear hHeld hx6 hx7 hx9 hT6 hT7 hT9 hall hH6 hH7 hH9 hs6 c1 c9 f9 xk0 xk1 xk2 xk3 xk4 xk5 hsz
              generalize w7k.setCell ⟨gW, 0, none⟩ (.slice ak nk ck) = Zk at *
              have Bk := Lib.hid (hB.out.trans (bE_below Ek.out hb7.out hg_gW))
              have HNk := Lib.hid (hN1.out.belowE Ek.out hl_gN (by simp; omega))
              clear hF hW1 hN1 hB X1 Ek
              go_upto_region 25 with (fail)
              have xj0 : ∀ W, BelowE [gN] V9.heap.size Zk W → W.cell? ⟨bm, om + i * 6, none⟩ = some (.int .i64 Y.kind) := fun W hW => (X2.out W (Bk.out.trans (bE_below hW (Nat.le_trans hb7.out (Nat.le_refl _)) hg_gN))).1
              have xj1 : ∀ W, BelowE [gN] V9.heap.size Zk W → W.cell? ⟨bm, om + i * 6 + 1, none⟩ = some (.int .i64 Y.sev) := fun W hW => (X2.out W (Bk.out.trans (bE_below hW (Nat.le_trans hb7.out (Nat.le_refl _)) hg_gN))).2.1
              have xj2 : ∀ W, BelowE [gN] V9.heap.size Zk W → W.cell? ⟨bm, om + i * 6 + 2, none⟩ = some (.string Y.fn) := fun W hW => (X2.out W (Bk.out.trans (bE_below hW (Nat.le_trans hb7.out (Nat.le_refl _)) hg_gN))).2.2.1
              have xj3 : ∀ W, BelowE [gN] V9.heap.size Zk W → W.cell? ⟨bm, om + i * 6 + 3, none⟩ = some (.string Y.file) := fun W hW => (X2.out W (Bk.out.trans (bE_below hW (Nat.le_trans hb7.out (Nat.le_refl _)) hg_gN))).2.2.2.1
              have xj4 : ∀ W, BelowE [gN] V9.heap.size Zk W → W.cell? ⟨bm, om + i * 6 + 4, none⟩ = some (.int .i64 Y.line) := fun W hW => (X2.out W (Bk.out.trans (bE_below hW (Nat.le_trans hb7.out (Nat.le_refl _)) hg_gN))).2.2.2.2.1
              have xj5 : ∀ W, BelowE [gN] V9.heap.size Zk W → W.cell? ⟨bm, om + i * 6 + 5, none⟩ = some (.string Y.expr) := fun W hW => (X2.out W (Bk.out.trans (bE_below hW (Nat.le_trans hb7.out (Nat.le_refl _)) hg_gN))).2.2.2.2.2
              have hall := Lib.hid (And.intro (show Holds Zk.drew gN 28 #[q3, q4, .slice none 0 0, .slice none 0 0] from HNk.out.drew) (And.intro (Tk.out.swap13.below (Below.refl _ _).drew) (show V9.heap.size ≤ Zk.drew.heap.size from Tk.out.swap13.b)))
              have hsz : Zk.drew.heap.size = Zk.drew.heap.size := rfl
              refine wp_drawn_on (fun W => BelowE [gN] V9.heap.size Zk W) (by kernel_rfl) ((BelowE.of (Below.refl _ _).drew)) (fun hHeld => ?_)
              generalize Zk.drew = WDj at hsz hall hHeld ⊢
              refine wT 0 (v := ?v29) rfl (by kernel_rfl) (fun _ _ _ h => h) ?h29 (by assumption) ?r29
              case h29 => (intro w hSw; (try dsimp only at hSw); go_simp; try with_reducible rfl)
              refine wT 2 (v := ?v30) rfl (by kernel_rfl) (fun _ _ _ h => h) ?h30 (by assumption) ?r30
              case h30 => (intro w hSw; (try dsimp only at hSw); go_simp; try with_reducible rfl)
              refine wT 3 (v := ?v31) rfl (by kernel_rfl) (fun _ _ _ h => h) ?h31 (by assumption) ?r31
              case h31 => (intro w hSw; (try dsimp only at hSw); go_simp; try with_reducible rfl)
              refine wT 4 (v := ?v32) rfl (by kernel_rfl) (fun _ _ _ h => h) ?h32 (by assumption) ?r32
              case h32 => (intro w hSw; (try dsimp only at hSw); go_simp; try with_reducible rfl)
              refine wT 5 (v := ?v33) rfl (by kernel_rfl) (fun _ _ _ h => h) ?h33 (by assumption) ?r33
              case h33 => (intro w hSw; (try dsimp only at hSw); go_simp; try with_reducible rfl)
              try simp only [Act.put, List.setIfInBounds_toArray, List.set_cons_zero, List.set_cons_succ]
              refine wpAnyH_ready (rs := [1, 6]) (by kernel_rfl) (by simp) ?_
              refine AllReadyH.cons (o := ⟨_, _, _, _, _, _⟩) rfl (fun K hK => ?_) (AllReadyH.cons (o := ⟨_, _, _, _, _, _⟩) rfl (fun K hK => ?_) AllReadyH.nil)
              · first | (have c1 := hH6.out.cell 0; simp at c1) | (have c1 := hall.out.1.cell 0; simp at c1)
                go_simp
                refine hK.out _ _ (hHeld) (fun hHeld => ?_)
                clear hK K
                try simp only [Act.put, List.setIfInBounds_toArray, List.set_cons_zero, List.set_cons_succ]
                refine wpAnyH_ready (rs := [6]) (by kernel_rfl) (by simp) ?_
                refine AllReadyH.cons (o := ⟨_, _, _, _, _, _⟩) rfl (fun K hK => ?_) AllReadyH.nil
                have hx6 := hHeld.trans (BelowE.of (X := [gN]) ((box_below WDj #[.int .i64 Y.kind, .int .i64 Y.sev, .string Y.fn, .string Y.file, .int .i64 Y.line, .string Y.expr] 54).mono hall.out.2.2))
                have hT6 := Lib.hid (hall.out.2.1.below (box_below WDj #[.int .i64 Y.kind, .int .i64 Y.sev, .string Y.fn, .string Y.file, .int .i64 Y.line, .string Y.expr] 54))
                have hH6 := Lib.hid (hall.out.1.below (box_below WDj #[.int .i64 Y.kind, .int .i64 Y.sev, .string Y.fn, .string Y.file, .int .i64 Y.line, .string Y.expr] 54) hall.out.1.lt)
                have hs6 := Lib.hid (seesC_lit WDj 54 #[.int .i64 Y.kind, .int .i64 Y.sev, .string Y.fn, .string Y.file, .int .i64 Y.line, .string Y.expr])
                go_simp
                generalize WDj.alloc (.cells #[.int .i64 Y.kind, .int .i64 Y.sev, .string Y.fn, .string Y.file, .int .i64 Y.line, .string Y.expr] 54) = w6j at *
                generalize WDj.heap.size = g6j at *
                refine hK.out _ _ (hx6) (fun hHeld => ?_)
                clear hK K
                try simp only [Act.put, List.setIfInBounds_toArray, List.set_cons_zero, List.set_cons_succ]
                refine wpAnyH_ready (rs := [7]) (by kernel_rfl) (by simp) ?_
                refine AllReadyH.cons (o := ⟨_, _, _, _, _, _⟩) rfl (fun K hK => ?_) AllReadyH.nil
                refine wp_append_fourX w6j (.tmp 166) (.tmp 171) rfl i0 zz Tryz.underlying23 hi0 hz h6 h72 hz6 (by decide) alC_len (by decide) (fun x u hu => alcells_one' x hu) _ _ _ _ _ _ _ _ hT6.out Y (some ⟨g6j, 0, none⟩) hs6.out rfl rfl (by omega) ?_
                intro v7 w7j T7 b7
                have hx7 : BelowE [gN] V9.heap.size Zk w7j := hx6.trans (BelowE.of b7)
                obtain ⟨aj, nj, cj, rfl⟩ := own_slice T7.o1
                have hT7 := Lib.hid T7
                have hH7 := Lib.hid (hH6.out.below b7 hl_gN)
                clear T7 b7
                refine hK.out _ _ (hx7) (fun hHeld => ?_)
                clear hK K
                refine wT 8 (v := ?v34) rfl (by kernel_rfl) (fun _ _ _ h => h) ?h34 (by assumption) ?r34
                case h34 => (intro w hSw; (try dsimp only at hSw); go_simp; try with_reducible rfl)
                try simp only [Act.put, List.setIfInBounds_toArray, List.set_cons_zero, List.set_cons_succ]
                refine wpAnyH_ready (rs := [9]) (by kernel_rfl) (by simp) ?_
                refine AllReadyH.cons (o := ⟨_, _, _, _, _, _⟩) rfl (fun K hK => ?_) AllReadyH.nil
                have c9 := hH7.out.cell 0
                have f9 := hH7.out.free 0
                simp at c9
                have hx9 : BelowE [gN] V9.heap.size Zk (w7j.setCell ⟨gN, 0, none⟩ (.slice aj nj cj)) := hx7.setIn (p := ⟨gN, 0, none⟩) (by simp) _
                have hT9 := Lib.hid (hT7.out.belowE ((BelowE.refl [gN] w7j.heap.size w7j).setIn (p := ⟨gN, 0, none⟩) (by simp) (.slice aj nj cj)) (by simp; exact hl_gN))
                have hH9 : Hid (Holds (w7j.setCell ⟨gN, 0, none⟩ (.slice aj nj cj)) gN 28 #[(.slice aj nj cj), q4, .slice none 0 0, .slice none 0 0]) := Lib.hid (by have := hH7.out.set 0 (.slice aj nj cj); simpa using this)
                go_simp
                refine hK.out _ _ (hx9) (fun hHeld => ?_)
                clear hK K
                try simp only [Act.put, List.setIfInBounds_toArray, List.set_cons_zero, List.set_cons_succ]
                refine wpAnyH_done (by kernel_rfl) ?_ _
                have Ej := Lib.hid hx9
                have Tj := Lib.hid hT9.out.swap13
                have Hj := hH9
                clear hHeld hx6 hx7 hx9 hT6 hT7 hT9 hall hH6 hH7 hH9 hs6 c1 c9 f9 xj0 xj1 xj2 xj3 xj4 xj5 hsz
                generalize w7j.setCell ⟨gN, 0, none⟩ (.slice aj nj cj) = Zj at *
                have Bj := Lib.hid (Bk.out.trans (bE_below Ej.out hb7.out hg_gN))
                have HWj := Lib.hid (Hk.out.belowE Ej.out hl_gW (by simp; omega))
                clear Hk Tk HNk Bk X2 Ej
                go_wp2
                go_roundw
                case rel => exact ⟨i + 1, (.slice ak nk ck), q2, (.slice aj nj cj), q4, by omega, by go_num, Lib.hid (by rw [e1'.out, e2'.out, e3'.out, e4'.out]; exact Tj.out), HWj, Hj, Bj⟩
                case measure => simp [intOf]; omega
              · have hx6 := hHeld.trans (BelowE.of (X := [gN]) ((box_below WDj #[.int .i64 Y.kind, .int .i64 Y.sev, .string Y.fn, .string Y.file, .int .i64 Y.line, .string Y.expr] 54).mono hall.out.2.2))
                have hT6 := Lib.hid (hall.out.2.1.below (box_below WDj #[.int .i64 Y.kind, .int .i64 Y.sev, .string Y.fn, .string Y.file, .int .i64 Y.line, .string Y.expr] 54))
                have hH6 := Lib.hid (hall.out.1.below (box_below WDj #[.int .i64 Y.kind, .int .i64 Y.sev, .string Y.fn, .string Y.file, .int .i64 Y.line, .string Y.expr] 54) hall.out.1.lt)
                have hs6 := Lib.hid (seesC_lit WDj 54 #[.int .i64 Y.kind, .int .i64 Y.sev, .string Y.fn, .string Y.file, .int .i64 Y.line, .string Y.expr])
                go_simp
                generalize WDj.alloc (.cells #[.int .i64 Y.kind, .int .i64 Y.sev, .string Y.fn, .string Y.file, .int .i64 Y.line, .string Y.expr] 54) = w6j at *
                generalize WDj.heap.size = g6j at *
                refine hK.out _ _ (hx6) (fun hHeld => ?_)
                clear hK K
                try simp only [Act.put, List.setIfInBounds_toArray, List.set_cons_zero, List.set_cons_succ]
                refine wpAnyH_ready (rs := [1]) (by kernel_rfl) (by simp) ?_
                refine AllReadyH.cons (o := ⟨_, _, _, _, _, _⟩) rfl (fun K hK => ?_) AllReadyH.nil
                first | (have c1 := hH6.out.cell 0; simp at c1) | (have c1 := hall.out.1.cell 0; simp at c1)
                go_simp
                refine hK.out _ _ (hHeld) (fun hHeld => ?_)
                clear hK K
                try simp only [Act.put, List.setIfInBounds_toArray, List.set_cons_zero, List.set_cons_succ]
                refine wpAnyH_ready (rs := [7]) (by kernel_rfl) (by simp) ?_
                refine AllReadyH.cons (o := ⟨_, _, _, _, _, _⟩) rfl (fun K hK => ?_) AllReadyH.nil
                refine wp_append_fourX w6j (.tmp 166) (.tmp 171) rfl i0 zz Tryz.underlying23 hi0 hz h6 h72 hz6 (by decide) alC_len (by decide) (fun x u hu => alcells_one' x hu) _ _ _ _ _ _ _ _ hT6.out Y (some ⟨g6j, 0, none⟩) hs6.out rfl rfl (by omega) ?_
                intro v7 w7j T7 b7
                have hx7 : BelowE [gN] V9.heap.size Zk w7j := hx6.trans (BelowE.of b7)
                obtain ⟨aj, nj, cj, rfl⟩ := own_slice T7.o1
                have hT7 := Lib.hid T7
                have hH7 := Lib.hid (hH6.out.below b7 hl_gN)
                clear T7 b7
                refine hK.out _ _ (hx7) (fun hHeld => ?_)
                clear hK K
                refine wT 8 (v := ?v35) rfl (by kernel_rfl) (fun _ _ _ h => h) ?h35 (by assumption) ?r35
                case h35 => (intro w hSw; (try dsimp only at hSw); go_simp; try with_reducible rfl)
                try simp only [Act.put, List.setIfInBounds_toArray, List.set_cons_zero, List.set_cons_succ]
                refine wpAnyH_ready (rs := [9]) (by kernel_rfl) (by simp) ?_
                refine AllReadyH.cons (o := ⟨_, _, _, _, _, _⟩) rfl (fun K hK => ?_) AllReadyH.nil
                have c9 := hH7.out.cell 0
                have f9 := hH7.out.free 0
                simp at c9
                have hx9 : BelowE [gN] V9.heap.size Zk (w7j.setCell ⟨gN, 0, none⟩ (.slice aj nj cj)) := hx7.setIn (p := ⟨gN, 0, none⟩) (by simp) _
                have hT9 := Lib.hid (hT7.out.belowE ((BelowE.refl [gN] w7j.heap.size w7j).setIn (p := ⟨gN, 0, none⟩) (by simp) (.slice aj nj cj)) (by simp; exact hl_gN))
                have hH9 : Hid (Holds (w7j.setCell ⟨gN, 0, none⟩ (.slice aj nj cj)) gN 28 #[(.slice aj nj cj), q4, .slice none 0 0, .slice none 0 0]) := Lib.hid (by have := hH7.out.set 0 (.slice aj nj cj); simpa using this)
                go_simp
                refine hK.out _ _ (hx9) (fun hHeld => ?_)
                clear hK K
                try simp only [Act.put, List.setIfInBounds_toArray, List.set_cons_zero, List.set_cons_succ]
                refine wpAnyH_done (by kernel_rfl) ?_ _
                have Ej := Lib.hid hx9
                have Tj := Lib.hid hT9.out.swap13
                have Hj := hH9
                clear hHeld hx6 hx7 hx9 hT6 hT7 hT9 hall hH6 hH7 hH9 hs6 c1 c9 f9 xj0 xj1 xj2 xj3 xj4 xj5 hsz
                generalize w7j.setCell ⟨gN, 0, none⟩ (.slice aj nj cj) = Zj at *
                have Bj := Lib.hid (Bk.out.trans (bE_below Ej.out hb7.out hg_gN))
                have HWj := Lib.hid (Hk.out.belowE Ej.out hl_gW (by simp; omega))
                clear Hk Tk HNk Bk X2 Ej
                go_wp2
                go_roundw
                case rel => exact ⟨i + 1, (.slice ak nk ck), q2, (.slice aj nj cj), q4, by omega, by go_num, Lib.hid (by rw [e1'.out, e2'.out, e3'.out, e4'.out]; exact Tj.out), HWj, Hj, Bj⟩
                case measure => simp [intOf]; omega
            · have hx6 := hHeld.trans (BelowE.of (X := [gW]) ((box_below WDk #[.int .i64 X.kind, .int .i64 X.sev, .string X.fn, .string X.file, .int .i64 X.line, .string X.expr] 54).mono hall.out.2.2))
              have hT6 := Lib.hid (hall.out.2.1.below (box_below WDk #[.int .i64 X.kind, .int .i64 X.sev, .string X.fn, .string X.file, .int .i64 X.line, .string X.expr] 54))
              have hH6 := Lib.hid (hall.out.1.below (box_below WDk #[.int .i64 X.kind, .int .i64 X.sev, .string X.fn, .string X.file, .int .i64 X.line, .string X.expr] 54) hall.out.1.lt)
              have hs6 := Lib.hid (seesC_lit WDk 54 #[.int .i64 X.kind, .int .i64 X.sev, .string X.fn, .string X.file, .int .i64 X.line, .string X.expr])
              go_simp
              generalize WDk.alloc (.cells #[.int .i64 X.kind, .int .i64 X.sev, .string X.fn, .string X.file, .int .i64 X.line, .string X.expr] 54) = w6k at *
              generalize WDk.heap.size = g6k at *
              refine hK.out _ _ (hx6) (fun hHeld => ?_)
              clear hK K
              try simp only [Act.put, List.setIfInBounds_toArray, List.set_cons_zero, List.set_cons_succ]
              refine wpAnyH_ready (rs := [1]) (by kernel_rfl) (by simp) ?_
              refine AllReadyH.cons (o := ⟨_, _, _, _, _, _⟩) rfl (fun K hK => ?_) AllReadyH.nil
              first | (have c1 := hH6.out.cell 0; simp at c1) | (have c1 := hall.out.1.cell 0; simp at c1)
              go_simp
              refine hK.out _ _ (hHeld) (fun hHeld => ?_)
              clear hK K
              try simp only [Act.put, List.setIfInBounds_toArray, List.set_cons_zero, List.set_cons_succ]
              refine wpAnyH_ready (rs := [7]) (by kernel_rfl) (by simp) ?_
              refine AllReadyH.cons (o := ⟨_, _, _, _, _, _⟩) rfl (fun K hK => ?_) AllReadyH.nil
              refine wp_append_fourX w6k (.tmp 157) (.tmp 162) rfl i0 zz Tryz.underlying23 hi0 hz h6 h72 hz6 (by decide) alC_len (by decide) (fun x u hu => alcells_one' x hu) _ _ _ _ _ _ _ _ hT6.out X (some ⟨g6k, 0, none⟩) hs6.out rfl rfl (by omega) ?_
              intro v7 w7k T7 b7
              have hx7 : BelowE [gW] V9.heap.size g0 w7k := hx6.trans (BelowE.of b7)
              obtain ⟨ak, nk, ck, rfl⟩ := own_slice T7.o1
              have hT7 := Lib.hid T7
              have hH7 := Lib.hid (hH6.out.below b7 hl_gW)
              clear T7 b7
              refine hK.out _ _ (hx7) (fun hHeld => ?_)
              clear hK K
              refine wT 8 (v := ?v14) rfl (by kernel_rfl) (fun _ _ _ h => h) ?h14 (by assumption) ?r14
              case h14 => (intro w hSw; (try dsimp only at hSw); go_simp; try with_reducible rfl)
              try simp only [Act.put, List.setIfInBounds_toArray, List.set_cons_zero, List.set_cons_succ]
              refine wpAnyH_ready (rs := [9]) (by kernel_rfl) (by simp) ?_
              refine AllReadyH.cons (o := ⟨_, _, _, _, _, _⟩) rfl (fun K hK => ?_) AllReadyH.nil
              have c9 := hH7.out.cell 0
              have f9 := hH7.out.free 0
              simp at c9
              have hx9 : BelowE [gW] V9.heap.size g0 (w7k.setCell ⟨gW, 0, none⟩ (.slice ak nk ck)) := hx7.setIn (p := ⟨gW, 0, none⟩) (by simp) _
              have hT9 := Lib.hid (hT7.out.belowE ((BelowE.refl [gW] w7k.heap.size w7k).setIn (p := ⟨gW, 0, none⟩) (by simp) (.slice ak nk ck)) (by simp; exact hl_gW))
              have hH9 : Hid (Holds (w7k.setCell ⟨gW, 0, none⟩ (.slice ak nk ck)) gW 28 #[(.slice ak nk ck), q2, .slice none 0 0, .slice none 0 0]) := Lib.hid (by have := hH7.out.set 0 (.slice ak nk ck); simpa using this)
              go_simp
              refine hK.out _ _ (hx9) (fun hHeld => ?_)
              clear hK K
              try simp only [Act.put, List.setIfInBounds_toArray, List.set_cons_zero, List.set_cons_succ]
              refine wpAnyH_done (by kernel_rfl) ?_ _
              have Ek := Lib.hid hx9
              have Tk := Lib.hid hT9.out
              have Hk := hH9
              clear hHeld hx6 hx7 hx9 hT6 hT7 hT9 hall hH6 hH7 hH9 hs6 c1 c9 f9 xk0 xk1 xk2 xk3 xk4 xk5 hsz
              generalize w7k.setCell ⟨gW, 0, none⟩ (.slice ak nk ck) = Zk at *
              have Bk := Lib.hid (hB.out.trans (bE_below Ek.out hb7.out hg_gW))
              have HNk := Lib.hid (hN1.out.belowE Ek.out hl_gN (by simp; omega))
              clear hF hW1 hN1 hB X1 Ek
              go_upto_region 25 with (fail)
              have xj0 : ∀ W, BelowE [gN] V9.heap.size Zk W → W.cell? ⟨bm, om + i * 6, none⟩ = some (.int .i64 Y.kind) := fun W hW => (X2.out W (Bk.out.trans (bE_below hW (Nat.le_trans hb7.out (Nat.le_refl _)) hg_gN))).1
              have xj1 : ∀ W, BelowE [gN] V9.heap.size Zk W → W.cell? ⟨bm, om + i * 6 + 1, none⟩ = some (.int .i64 Y.sev) := fun W hW => (X2.out W (Bk.out.trans (bE_below hW (Nat.le_trans hb7.out (Nat.le_refl _)) hg_gN))).2.1
              have xj2 : ∀ W, BelowE [gN] V9.heap.size Zk W → W.cell? ⟨bm, om + i * 6 + 2, none⟩ = some (.string Y.fn) := fun W hW => (X2.out W (Bk.out.trans (bE_below hW (Nat.le_trans hb7.out (Nat.le_refl _)) hg_gN))).2.2.1
              have xj3 : ∀ W, BelowE [gN] V9.heap.size Zk W → W.cell? ⟨bm, om + i * 6 + 3, none⟩ = some (.string Y.file) := fun W hW => (X2.out W (Bk.out.trans (bE_below hW (Nat.le_trans hb7.out (Nat.le_refl _)) hg_gN))).2.2.2.1
              have xj4 : ∀ W, BelowE [gN] V9.heap.size Zk W → W.cell? ⟨bm, om + i * 6 + 4, none⟩ = some (.int .i64 Y.line) := fun W hW => (X2.out W (Bk.out.trans (bE_below hW (Nat.le_trans hb7.out (Nat.le_refl _)) hg_gN))).2.2.2.2.1
              have xj5 : ∀ W, BelowE [gN] V9.heap.size Zk W → W.cell? ⟨bm, om + i * 6 + 5, none⟩ = some (.string Y.expr) := fun W hW => (X2.out W (Bk.out.trans (bE_below hW (Nat.le_trans hb7.out (Nat.le_refl _)) hg_gN))).2.2.2.2.2
              have hall := Lib.hid (And.intro (show Holds Zk.drew gN 28 #[q3, q4, .slice none 0 0, .slice none 0 0] from HNk.out.drew) (And.intro (Tk.out.swap13.below (Below.refl _ _).drew) (show V9.heap.size ≤ Zk.drew.heap.size from Tk.out.swap13.b)))
              have hsz : Zk.drew.heap.size = Zk.drew.heap.size := rfl
              refine wp_drawn_on (fun W => BelowE [gN] V9.heap.size Zk W) (by kernel_rfl) ((BelowE.of (Below.refl _ _).drew)) (fun hHeld => ?_)
              generalize Zk.drew = WDj at hsz hall hHeld ⊢
              refine wT 0 (v := ?v36) rfl (by kernel_rfl) (fun _ _ _ h => h) ?h36 (by assumption) ?r36
              case h36 => (intro w hSw; (try dsimp only at hSw); go_simp; try with_reducible rfl)
              refine wT 2 (v := ?v37) rfl (by kernel_rfl) (fun _ _ _ h => h) ?h37 (by assumption) ?r37
              case h37 => (intro w hSw; (try dsimp only at hSw); go_simp; try with_reducible rfl)
              refine wT 3 (v := ?v38) rfl (by kernel_rfl) (fun _ _ _ h => h) ?h38 (by assumption) ?r38
              case h38 => (intro w hSw; (try dsimp only at hSw); go_simp; try with_reducible rfl)
              refine wT 4 (v := ?v39) rfl (by kernel_rfl) (fun _ _ _ h => h) ?h39 (by assumption) ?r39
              case h39 => (intro w hSw; (try dsimp only at hSw); go_simp; try with_reducible rfl)
              refine wT 5 (v := ?v40) rfl (by kernel_rfl) (fun _ _ _ h => h) ?h40 (by assumption) ?r40
              case h40 => (intro w hSw; (try dsimp only at hSw); go_simp; try with_reducible rfl)
              try simp only [Act.put, List.setIfInBounds_toArray, List.set_cons_zero, List.set_cons_succ]
              refine wpAnyH_ready (rs := [1, 6]) (by kernel_rfl) (by simp) ?_
              refine AllReadyH.cons (o := ⟨_, _, _, _, _, _⟩) rfl (fun K hK => ?_) (AllReadyH.cons (o := ⟨_, _, _, _, _, _⟩) rfl (fun K hK => ?_) AllReadyH.nil)
              · first | (have c1 := hH6.out.cell 0; simp at c1) | (have c1 := hall.out.1.cell 0; simp at c1)
                go_simp
                refine hK.out _ _ (hHeld) (fun hHeld => ?_)
                clear hK K
                try simp only [Act.put, List.setIfInBounds_toArray, List.set_cons_zero, List.set_cons_succ]
                refine wpAnyH_ready (rs := [6]) (by kernel_rfl) (by simp) ?_
                refine AllReadyH.cons (o := ⟨_, _, _, _, _, _⟩) rfl (fun K hK => ?_) AllReadyH.nil
                have hx6 := hHeld.trans (BelowE.of (X := [gN]) ((box_below WDj #[.int .i64 Y.kind, .int .i64 Y.sev, .string Y.fn, .string Y.file, .int .i64 Y.line, .string Y.expr] 54).mono hall.out.2.2))
                have hT6 := Lib.hid (hall.out.2.1.below (box_below WDj #[.int .i64 Y.kind, .int .i64 Y.sev, .string Y.fn, .string Y.file, .int .i64 Y.line, .string Y.expr] 54))
                have hH6 := Lib.hid (hall.out.1.below (box_below WDj #[.int .i64 Y.kind, .int .i64 Y.sev, .string Y.fn, .string Y.file, .int .i64 Y.line, .string Y.expr] 54) hall.out.1.lt)
                have hs6 := Lib.hid (seesC_lit WDj 54 #[.int .i64 Y.kind, .int .i64 Y.sev, .string Y.fn, .string Y.file, .int .i64 Y.line, .string Y.expr])
                go_simp
                generalize WDj.alloc (.cells #[.int .i64 Y.kind, .int .i64 Y.sev, .string Y.fn, .string Y.file, .int .i64 Y.line, .string Y.expr] 54) = w6j at *
                generalize WDj.heap.size = g6j at *
                refine hK.out _ _ (hx6) (fun hHeld => ?_)
                clear hK K
                try simp only [Act.put, List.setIfInBounds_toArray, List.set_cons_zero, List.set_cons_succ]
                refine wpAnyH_ready (rs := [7]) (by kernel_rfl) (by simp) ?_
                refine AllReadyH.cons (o := ⟨_, _, _, _, _, _⟩) rfl (fun K hK => ?_) AllReadyH.nil
                refine wp_append_fourX w6j (.tmp 166) (.tmp 171) rfl i0 zz Tryz.underlying23 hi0 hz h6 h72 hz6 (by decide) alC_len (by decide) (fun x u hu => alcells_one' x hu) _ _ _ _ _ _ _ _ hT6.out Y (some ⟨g6j, 0, none⟩) hs6.out rfl rfl (by omega) ?_
                intro v7 w7j T7 b7
                have hx7 : BelowE [gN] V9.heap.size Zk w7j := hx6.trans (BelowE.of b7)
                obtain ⟨aj, nj, cj, rfl⟩ := own_slice T7.o1
                have hT7 := Lib.hid T7
                have hH7 := Lib.hid (hH6.out.below b7 hl_gN)
                clear T7 b7
                refine hK.out _ _ (hx7) (fun hHeld => ?_)
                clear hK K
                refine wT 8 (v := ?v41) rfl (by kernel_rfl) (fun _ _ _ h => h) ?h41 (by assumption) ?r41
                case h41 => (intro w hSw; (try dsimp only at hSw); go_simp; try with_reducible rfl)
                try simp only [Act.put, List.setIfInBounds_toArray, List.set_cons_zero, List.set_cons_succ]
                refine wpAnyH_ready (rs := [9]) (by kernel_rfl) (by simp) ?_
                refine AllReadyH.cons (o := ⟨_, _, _, _, _, _⟩) rfl (fun K hK => ?_) AllReadyH.nil
                have c9 := hH7.out.cell 0
                have f9 := hH7.out.free 0
                simp at c9
                have hx9 : BelowE [gN] V9.heap.size Zk (w7j.setCell ⟨gN, 0, none⟩ (.slice aj nj cj)) := hx7.setIn (p := ⟨gN, 0, none⟩) (by simp) _
                have hT9 := Lib.hid (hT7.out.belowE ((BelowE.refl [gN] w7j.heap.size w7j).setIn (p := ⟨gN, 0, none⟩) (by simp) (.slice aj nj cj)) (by simp; exact hl_gN))
                have hH9 : Hid (Holds (w7j.setCell ⟨gN, 0, none⟩ (.slice aj nj cj)) gN 28 #[(.slice aj nj cj), q4, .slice none 0 0, .slice none 0 0]) := Lib.hid (by have := hH7.out.set 0 (.slice aj nj cj); simpa using this)
                go_simp
                refine hK.out _ _ (hx9) (fun hHeld => ?_)
                clear hK K
                try simp only [Act.put, List.setIfInBounds_toArray, List.set_cons_zero, List.set_cons_succ]
                refine wpAnyH_done (by kernel_rfl) ?_ _
                have Ej := Lib.hid hx9
                have Tj := Lib.hid hT9.out.swap13
                have Hj := hH9
                clear hHeld hx6 hx7 hx9 hT6 hT7 hT9 hall hH6 hH7 hH9 hs6 c1 c9 f9 xj0 xj1 xj2 xj3 xj4 xj5 hsz
                generalize w7j.setCell ⟨gN, 0, none⟩ (.slice aj nj cj) = Zj at *
                have Bj := Lib.hid (Bk.out.trans (bE_below Ej.out hb7.out hg_gN))
                have HWj := Lib.hid (Hk.out.belowE Ej.out hl_gW (by simp; omega))
                clear Hk Tk HNk Bk X2 Ej
                go_wp2
                go_roundw
                case rel => exact ⟨i + 1, (.slice ak nk ck), q2, (.slice aj nj cj), q4, by omega, by go_num, Lib.hid (by rw [e1'.out, e2'.out, e3'.out, e4'.out]; exact Tj.out), HWj, Hj, Bj⟩
                case measure => simp [intOf]; omega
              · have hx6 := hHeld.trans (BelowE.of (X := [gN]) ((box_below WDj #[.int .i64 Y.kind, .int .i64 Y.sev, .string Y.fn, .string Y.file, .int .i64 Y.line, .string Y.expr] 54).mono hall.out.2.2))
                have hT6 := Lib.hid (hall.out.2.1.below (box_below WDj #[.int .i64 Y.kind, .int .i64 Y.sev, .string Y.fn, .string Y.file, .int .i64 Y.line, .string Y.expr] 54))
                have hH6 := Lib.hid (hall.out.1.below (box_below WDj #[.int .i64 Y.kind, .int .i64 Y.sev, .string Y.fn, .string Y.file, .int .i64 Y.line, .string Y.expr] 54) hall.out.1.lt)
                have hs6 := Lib.hid (seesC_lit WDj 54 #[.int .i64 Y.kind, .int .i64 Y.sev, .string Y.fn, .string Y.file, .int .i64 Y.line, .string Y.expr])
                go_simp
                generalize WDj.alloc (.cells #[.int .i64 Y.kind, .int .i64 Y.sev, .string Y.fn, .string Y.file, .int .i64 Y.line, .string Y.expr] 54) = w6j at *
                generalize WDj.heap.size = g6j at *
                refine hK.out _ _ (hx6) (fun hHeld => ?_)
                clear hK K
                try simp only [Act.put, List.setIfInBounds_toArray, List.set_cons_zero, List.set_cons_succ]
                refine wpAnyH_ready (rs := [1]) (by kernel_rfl) (by simp) ?_
                refine AllReadyH.cons (o := ⟨_, _, _, _, _, _⟩) rfl (fun K hK => ?_) AllReadyH.nil
                first | (have c1 := hH6.out.cell 0; simp at c1) | (have c1 := hall.out.1.cell 0; simp at c1)
                go_simp
                refine hK.out _ _ (hHeld) (fun hHeld => ?_)
                clear hK K
                try simp only [Act.put, List.setIfInBounds_toArray, List.set_cons_zero, List.set_cons_succ]
                refine wpAnyH_ready (rs := [7]) (by kernel_rfl) (by simp) ?_
                refine AllReadyH.cons (o := ⟨_, _, _, _, _, _⟩) rfl (fun K hK => ?_) AllReadyH.nil
                refine wp_append_fourX w6j (.tmp 166) (.tmp 171) rfl i0 zz Tryz.underlying23 hi0 hz h6 h72 hz6 (by decide) alC_len (by decide) (fun x u hu => alcells_one' x hu) _ _ _ _ _ _ _ _ hT6.out Y (some ⟨g6j, 0, none⟩) hs6.out rfl rfl (by omega) ?_
                intro v7 w7j T7 b7
                have hx7 : BelowE [gN] V9.heap.size Zk w7j := hx6.trans (BelowE.of b7)
                obtain ⟨aj, nj, cj, rfl⟩ := own_slice T7.o1
                have hT7 := Lib.hid T7
                have hH7 := Lib.hid (hH6.out.below b7 hl_gN)
                clear T7 b7
                refine hK.out _ _ (hx7) (fun hHeld => ?_)
                clear hK K
                refine wT 8 (v := ?v42) rfl (by kernel_rfl) (fun _ _ _ h => h) ?h42 (by assumption) ?r42
                case h42 => (intro w hSw; (try dsimp only at hSw); go_simp; try with_reducible rfl)
                try simp only [Act.put, List.setIfInBounds_toArray, List.set_cons_zero, List.set_cons_succ]
                refine wpAnyH_ready (rs := [9]) (by kernel_rfl) (by simp) ?_
                refine AllReadyH.cons (o := ⟨_, _, _, _, _, _⟩) rfl (fun K hK => ?_) AllReadyH.nil
                have c9 := hH7.out.cell 0
                have f9 := hH7.out.free 0
                simp at c9
                have hx9 : BelowE [gN] V9.heap.size Zk (w7j.setCell ⟨gN, 0, none⟩ (.slice aj nj cj)) := hx7.setIn (p := ⟨gN, 0, none⟩) (by simp) _
                have hT9 := Lib.hid (hT7.out.belowE ((BelowE.refl [gN] w7j.heap.size w7j).setIn (p := ⟨gN, 0, none⟩) (by simp) (.slice aj nj cj)) (by simp; exact hl_gN))
                have hH9 : Hid (Holds (w7j.setCell ⟨gN, 0, none⟩ (.slice aj nj cj)) gN 28 #[(.slice aj nj cj), q4, .slice none 0 0, .slice none 0 0]) := Lib.hid (by have := hH7.out.set 0 (.slice aj nj cj); simpa using this)
                go_simp
                refine hK.out _ _ (hx9) (fun hHeld => ?_)
                clear hK K
                try simp only [Act.put, List.setIfInBounds_toArray, List.set_cons_zero, List.set_cons_succ]
                refine wpAnyH_done (by kernel_rfl) ?_ _
                have Ej := Lib.hid hx9
                have Tj := Lib.hid hT9.out.swap13
                have Hj := hH9
                clear hHeld hx6 hx7 hx9 hT6 hT7 hT9 hall hH6 hH7 hH9 hs6 c1 c9 f9 xj0 xj1 xj2 xj3 xj4 xj5 hsz
                generalize w7j.setCell ⟨gN, 0, none⟩ (.slice aj nj cj) = Zj at *
                have Bj := Lib.hid (Bk.out.trans (bE_below Ej.out hb7.out hg_gN))
                have HWj := Lib.hid (Hk.out.belowE Ej.out hl_gW (by simp; omega))
                clear Hk Tk HNk Bk X2 Ej
                go_wp2
                go_roundw
                case rel => exact ⟨i + 1, (.slice ak nk ck), q2, (.slice aj nj cj), q4, by omega, by go_num, Lib.hid (by rw [e1'.out, e2'.out, e3'.out, e4'.out]; exact Tj.out), HWj, Hj, Bj⟩
                case measure => simp [intOf]; omega
        · have hki : ¬ (i : Int) < (k : Int) := by omega
          obtain rfl : i = k := by omega
          obtain ⟨p1, r1, rfl, o1⟩ := own_read alC_len (by decide) hF.out.o1
          obtain ⟨p2, r2, rfl, o2⟩ := own_read alC_len (by decide) hF.out.o2
          obtain ⟨p3, r3, rfl, o3⟩ := own_read alC_len (by decide) hF.out.o3
          obtain ⟨p4, r4, rfl, o4⟩ := own_read alC_len (by decide) hF.out.o4
          have RS8 := RS7.out.below hB.out
          have RT8 := RT7.out.below hB.out
          have RS8k := RS8.k
          have RS8f := RS8.f
          have RT8k := RT8.k
          have RT8f := RT8.f
          dsimp only at RS8k RS8f RT8k RT8f
          have c1 := Lib.hid (fun W (hW : Below g0.heap.size g0 W) => same_self W x1 p1 y1 _ z1 r1 _ (RS8k.below hW) (o1.below hW))
          have c2 := Lib.hid (fun W (hW : Below g0.heap.size g0 W) => same_self W x2 p2 y2 _ z2 r2 _ (RS8f.below hW) (o2.below hW))
          have c3 := Lib.hid (fun W (hW : Below g0.heap.size g0 W) => same_self W u1 p3 v1 _ s1 r3 _ (RT8k.below hW) (o3.below hW))
          have c4 := Lib.hid (fun W (hW : Below g0.heap.size g0 W) => same_self W u2 p4 v2 _ s2 r4 _ (RT8f.below hW) (o4.below hW))
          have HA := Lib.hid (fun W (hW : Below g0.heap.size g0 W) => And.intro ((HS7.out.below hB.out HS7.out.lt).below hW (Nat.lt_of_lt_of_le HS7.out.lt hB.out.size)) (And.intro ((HT7.out.below hB.out HT7.out.lt).below hW (Nat.lt_of_lt_of_le HT7.out.lt hB.out.size)) (And.intro (hW1.out.below hW hW1.out.lt) (hN1.out.below hW hN1.out.lt))))
          have BZ := Lib.hid (B7.out.trans (hB.out.mono B7.out.size))
          clear hF hW1 hN1 hB RS7 RT7 HS7 HT7 RS8 RT8 RS8k RS8f RT8k RT8f o1 o2 o3 o4 qh R2 RM7 R1
          have D0 := Lib.hid (Below.refl g0.heap.size g0)
          have s_0 := (HA.out _ D0.out).1.cell 0
          have t_0 := (HA.out _ D0.out).2.2.1.cell 0
          simp at s_0 t_0
          go_wp2_with fail
          refine (c1.out _ D0.out).mono ?_
          rintro e z0 ⟨rfl, j0, rfl⟩
          have D1 := Lib.hid (Below.drewN D0.out j0)
          clear s_0 t_0 c1
          generalize World.drewN _ j0 = G0 at *
          have s_1 := (HA.out _ D1.out).1.cell 1
          have t_1 := (HA.out _ D1.out).2.2.1.cell 1
          simp at s_1 t_1
          go_wp2_with fail
          refine (c2.out _ D1.out).mono ?_
          rintro e z1 ⟨rfl, j1, rfl⟩
          have D2 := Lib.hid (Below.drewN D1.out j1)
          clear s_1 t_1 c2
          generalize World.drewN _ j1 = G1 at *
          have s_2 := (HA.out _ D2.out).2.1.cell 0
          have t_2 := (HA.out _ D2.out).2.2.2.cell 0
          simp at s_2 t_2
          go_wp2_with fail
          refine (c3.out _ D2.out).mono ?_
          rintro e z2 ⟨rfl, j2, rfl⟩
          have D3 := Lib.hid (Below.drewN D2.out j2)
          clear s_2 t_2 c3
          generalize World.drewN _ j2 = G2 at *
          have s_3 := (HA.out _ D3.out).2.1.cell 1
          have t_3 := (HA.out _ D3.out).2.2.2.cell 1
          simp at s_3 t_3
          go_wp2_with fail
          refine (c4.out _ D3.out).mono ?_
          rintro e z3 ⟨rfl, j3, rfl⟩
          have D4 := Lib.hid (Below.drewN D3.out j3)
          clear s_3 t_3 c4
          generalize World.drewN _ j3 = G3 at *
          go_wp2
          exact bodyPost_ret (results_tmp rfl _ _ _) rfl ⟨rfl, BZ.out.trans (D4.out.mono BZ.out.size)⟩
end Go.Proofs.YtpchncpcckfghaaGreat

namespace Go.Proofs.YtpchncpcckfghaaGreat
open Go.RowKit
set_option linter.unusedVariables false
theorem baseMoves_walk (w : World) (a1 : Option Addr) (n1 c1 : Nat) (row1 : MkSl w a1 n1 c1) (a2 : Option Addr) (n2 c2 : Nat) (row2 : AlSl w a2 n2 c2) (f : Int) (hf : (Lit.int .i64 f).wf = true) (m : Int) (hm : (Lit.int .i64 m).wf = true) (t : Int) (ht : (Lit.int .i64 t).wf = true) :
    Calls Tryz.prog 7 #[.slice a1 n1 c1, .slice a2 n2 c2, .int .i64 f, .int .i64 m, .int .i64 t] w (Gives (.bool true) w) := by
  obtain ⟨l, h1, hw1, -⟩ := row1
  obtain ⟨A, h2, hw2, -⟩ := row2
  cases hg1 : bigMk 300 l with
  | true => exact moves_big1 w a1 a2 n1 n2 c1 c2 l A f m t hw1 hw2 h1 h2 hg1
  | false =>
  cases hg2 : bigA A with
  | true => exact moves_big2 w a1 a2 n1 n2 c1 c2 l A f m t hw1 hw2 h1 h2 hg1 hg2
  | false =>
  cases hb : baseB l with
  | false => exact moves_nob w a1 a2 n1 n2 c1 c2 l A f m t hw1 hw2 h1 h2 hg1 hg2 hb
  | true =>
  by_cases p0 : m < 0
  · exact moves_m0 w a1 a2 n1 n2 c1 c2 l A f m t hw1 hw2 h1 h2 hg1 hg2 hb p0
  by_cases p1 : 1000 < m
  · exact moves_m1 w a1 a2 n1 n2 c1 c2 l A f m t hw1 hw2 h1 h2 hg1 hg2 hb (by omega) p1
  by_cases p2 : t < 1
  · exact moves_t0 w a1 a2 n1 n2 c1 c2 l A f m t hw1 hw2 h1 h2 hg1 hg2 hb (by omega) (by omega) p2
  by_cases p3 : 1000 < t
  · exact moves_t1 w a1 a2 n1 n2 c1 c2 l A f m t hw1 hw2 h1 h2 hg1 hg2 hb (by omega) (by omega) (by omega) p3
  exact moves_ok w a1 a2 n1 n2 c1 c2 l A f m t hw1 hw2 h1 h2 hg1 hg2 hb (by omega) (by omega) (by omega) (by omega)
end Go.Proofs.YtpchncpcckfghaaGreat
