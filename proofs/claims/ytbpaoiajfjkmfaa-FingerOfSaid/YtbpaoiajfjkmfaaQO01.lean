/-
  Words and walks under the law's proof.
-/
import Derived.WalkKit
import Derived.LoopTactic
import Derived.Outline
import Derived.Lib.Hide
import Derived.Laws.BytesArg
import Derived.Sort.Walk0
import Derived.Lib.SlicesCompact
import Derived.Shelf.SlSortCmp.NoneTotal
import Derived.Test.YtbpaoiajfjkmfaaRows
import Derived.IntWalk
import Derived.Laws.AppendOwnNone
import Derived.Deep.Draws
import Derived.Deep.QuietTactic
import Derived.BigQuiet
import Derived.WalkSmall
import Derived.Maps.AppendAt
import Derived.Lib.ConvBytes
import Derived.WalkMore
import Derived.Deep.LoopGhost
import Derived.Shelf.Strings.Builder1
import Derived.Shelf.Small.Bits
import Derived.Shelf.Small.Wraps
import Derived.Shelf.Strings.BuilderF
import Derived.Shelf.Strings.BuilderK
import Derived.Shelf.Strconv.Itoa0
import Derived.Shelf.Strings.BuilderCap
import Derived.Ground.Names2Prog
import Derived.Shelf.Slices.SearchI
import Derived.Ground.SlsfProg
import Derived.Shelf.SlSortCmp.Insertion
import Derived.Shelf.SlSortCmp.SiftDown1
import Derived.Shelf.SlSortCmp.HeapSort1
import Derived.Shelf.SlSortCmp.Insertion1
import Derived.Shelf.SlSortCmp.Median1
import Derived.Shelf.SlSortCmp.Pivot1
import Derived.Shelf.SlSortCmp.ReverseRange1
import Derived.Shelf.SlSortCmp.PartialInsertion1
import Derived.Shelf.SlSortCmp.PartitionEqual1
import Derived.Shelf.SlSortCmp.Partition1
import Derived.Shelf.SlSortCmp.Pdq1
import Derived.Shelf.SlSortCmp.Whole1
import Derived.Test.YtbpaoiajfjkmfaaProg
namespace Go.Proofs.Ytbpaoiajfjkmfaa
open Go.RowKit
set_option linter.unusedVariables false
def nums (k : IntKind) (l : List Int) : List Value := l.map (Value.int k)
theorem nums_snoc (k : IntKind) (l : List Int) (x : Int) : nums k (l ++ [x]) = nums k l ++ [.int k x] := by simp [nums]
def Sees (k : IntKind) (B : Nat) (w : World) (a : Option Addr) (l : List Int) : Prop :=
  l = [] ∨ ∃ b off, a = some ⟨b, off, none⟩ ∧ b < B ∧ ∀ i, i < l.length → w.cell? ⟨b, off + i, none⟩ = some (.int k (l.getD i 0))
theorem Sees.below {k B w w' a l} (h : Sees k B w a l) (hb : Below B w w') : Sees k B w' a l := by
  rcases h with h | ⟨b, off, rfl, hB, hc⟩
  · exact .inl h
  · exact .inr ⟨b, off, rfl, hB, fun i hi => (hb.cell (p := ⟨b, off + i, none⟩) hB).trans (hc i hi)⟩
theorem Sees.mono {k B B' w a l} (h : Sees k B w a l) (hb : B ≤ B') : Sees k B' w a l := by
  rcases h with h | ⟨b, off, rfl, hB, hc⟩
  · exact .inl h
  · exact .inr ⟨b, off, rfl, by omega, hc⟩
theorem Sees.nil {k B w a} : Sees k B w a [] := .inl rfl
theorem sees_own {k : IntKind} {w : World} {base : Nat} {e : TypeId} {v : Value} {n : Nat} {l : List Int} (h : w.ownsRow base e 1 v n (nums k l)) :
    ∃ a cap, v = .slice a l.length cap ∧ n = l.length ∧ Sees k w.heap.size w a l := by
  have hn : n = l.length := by have := h.1; simp [nums] at this; omega
  rcases h.2 with ⟨rfl, h0⟩ | ⟨g, cap, cur, rfl, _, hg, _⟩
  · subst hn
    exact ⟨none, 0, by rw [h0], rfl, .inl (List.eq_nil_of_length_eq_zero h0)⟩
  · subst hn
    refine ⟨_, cap, rfl, rfl, .inr ⟨g, 0, rfl, (Array.getElem?_eq_some_iff.1 hg).1, fun i hi => ?_⟩⟩
    have := h.cells (g := g) rfl i (.int k (l.getD i 0)) (by simp [nums, List.getD, hi])
    have h2 : (⟨g, 0, none⟩ : Addr).add i = ⟨g, 0 + i, none⟩ := by unfold Addr.add; split <;> simp_all
    rw [h2] at this
    exact this
def Made (e0 : TypeId) (k : IntKind) (w : World) (l : List Int) (e : Ending) (w' : World) : Prop :=
  ∃ v, e = .returned v ∧ w'.ownsRow w.heap.size e0 1 v l.length (nums k l) ∧ Below w.heap.size w w'
def Gives (v : Value) (w : World) (e : Ending) (w' : World) : Prop := e = .returned v ∧ Below w.heap.size w w'
theorem wpList_append1 {P : Program} (w : World) {ops : Array Oper} {rest : List Oper} {o : Oper} {a : Act} {Q : Exit → Act → World → Prop}
    (hg : o.guard = none) (s x : Operand) (t : TypeId) (hop : o.op = Op.call { callee := Callee.builtin Builtin.append, args := #[s, x], argTypes := #[t, t] })
    (w0 : World) (e : TypeId) (i : TypeInfo) (z : Value) (bytes : Nat) (ht : P.underlying t = some (.slice e)) (hi : P.info? e = some i) (hz : i.zero = some z)
    (hsize : i.size = 1) (hby : i.bytes = bytes) (hzs : z.cells.size = 1) (k : IntKind) (y : Int)
    (v : Value) (l : List Int) (hown : w.ownsRow w0.heap.size e 1 v l.length (nums k l)) (hb : Below w0.heap.size w0 w)
    (hs : a.eval s = v) (hx : a.eval x = .slice (some ⟨w.heap.size, 0, none⟩) 1 1)
    (hn : l.length < 17592186044416) (h8 : bytes ≤ 8)
    (hK : ∀ v' w', w'.ownsRow w0.heap.size e 1 v' (l ++ [y]).length (nums k (l ++ [y])) → Below w0.heap.size w0 w' → wpList P ops Q rest (a.put o.dst v') w') :
    wpList P ops Q (o :: rest) a (w.alloc (.cells #[.int k y] e)) := by
  have hm : (l.length + 1) * bytes ≤ 140737488355328 := Nat.le_trans (Nat.mul_le_mul (by omega : l.length + 1 ≤ 17592186044416) h8) (by omega)
  refine wpList_append_own _ hg s x t hop w0.heap.size e i z 1 bytes ht hi hz hsize hby hzs (by omega) v l.length (nums k l) hs (hown.alloc _) ⟨w.heap.size, 0, none⟩ 1 1 [.int k y] hx rfl ?_ ?_ (by unfold maxLen; omega) hm ?_ ?_
  · intro j u hj
    match j, hj with
    | 0, hj => simp at hj; subst hj; simp [Addr.add]
  · intro u hu; simp at hu; subst hu; rfl
  · have := hb.size; simp; omega
  · intro v' w' hown' hgrow _
    refine hK v' w' (by rw [nums_snoc, List.length_append]; exact hown') ?_
    refine (hb.alloc hb.size _).grown hgrow (by have := hb.size; simp; omega) fun q hq => ?_
    exact (hown.lt q hq).1
theorem conv_sees {P : Program} (src dst e : TypeId) (hs : P.underlying src = some (.slice e)) (he : P.underlying e = some (.int .u8)) (hd : P.underlying dst = some .string)
    {B : Nat} {w : World} {a : Option Addr} {l : List Int} (h : Sees .u8 B w a l) (n c : Nat) (hn : n = l.length) : (convert src dst (.slice a n c)).run P w = .ok (.string (strOfNums l)) w := by
  subst hn
  rcases h with rfl | ⟨b, off, rfl, _, hc⟩
  · cases a with
    | none => exact run_convert_bytes_nil w src e hs he _ _ dst hd
    | some x =>
      have := run_convert_bytes_string (P := P) w src dst e (some x) 0 c hs he hd
      rw [show ([] : List Int).length = 0 from rfl, this]
      have hl : (loadCells x 0).run P w = .ok ([] : List Value).toArray w := run_loadCells_list (P := P) w x [] (by simp)
      rw [run_bytesToString w x 0 c [] (by simpa using hl)]
      rfl
  · exact run_convert_bytes_arg w src e hs he b off _ c l rfl hc dst hd
def Bs (l : List Int) : Prop := ∀ x ∈ l, 0 ≤ x ∧ x ≤ 255
theorem Bs.at {l : List Int} (h : Bs l) {i : Nat} (hi : i < l.length) : 0 ≤ l.getD i 0 ∧ l.getD i 0 ≤ 255 := by
  simp only [List.getD, List.getElem?_eq_getElem hi, Option.getD_some]
  exact h _ (List.getElem_mem _)
theorem strOfNums_inj {l r : List Int} (hl : Bs l) (hr : Bs r) (h : strOfNums l = strOfNums r) : l = r := by
  have h2 : (strOfNums l).data.toList = (strOfNums r).data.toList := by rw [h]
  rw [strOfNums_data, strOfNums_data] at h2
  clear h
  induction l generalizing r with
  | nil => cases r with
    | nil => rfl
    | cons y r => simp at h2
  | cons x l ih => cases r with
    | nil => simp at h2
    | cons y r =>
      simp only [List.map_cons, List.cons.injEq] at h2
      have hx := hl x (by simp)
      have hy := hr y (by simp)
      have h3 : x.toNat = y.toNat := by
        have := congrArg UInt8.toNat h2.1
        simp only [UInt8.toNat_ofNat'] at this
        omega
      rw [show x = y by omega, ih (fun z hz => hl z (by simp [hz])) (fun z hz => hr z (by simp [hz])) h2.2]
theorem i64_wf {n : Int} (h : (Lit.int .i64 n).wf = true) : -9223372036854775808 ≤ n ∧ n ≤ 9223372036854775807 := by
  simpa [Lit.wf, IntKind.min, IntKind.max, IntKind.signed, IntKind.bits] using h
theorem wrap_u64_in {n : Int} (h0 : 0 ≤ n) (h1 : n ≤ 18446744073709551615) : IntKind.u64.wrap n = n := by
  simp [IntKind.wrap, IntKind.bits, IntKind.signed]; omega
theorem u64_quo {n c : Int} (h0 : 0 ≤ n) (h1 : n ≤ 18446744073709551615) (hc : 0 < c) : IntKind.u64.wrap (n.tdiv c) = n / c := by
  rw [Int.tdiv_eq_ediv_of_nonneg h0]
  have h2 : n / c ≤ n := Int.ediv_le_self _ h0
  exact wrap_u64_in (Int.ediv_nonneg h0 (by omega)) (by omega)
theorem sees_new (k : IntKind) (w : World) (e : TypeId) (l : List Int) (cs : Array Value) (h : cs = (nums k l).toArray) (fr : Nat × Nat := (0, 0)) : Sees k (w.heap.size + 1) (w.alloc (.cells cs e fr)) (some ⟨w.heap.size, 0, none⟩) l := by
  subst h
  refine .inr ⟨w.heap.size, 0, rfl, by omega, fun i hi => ?_⟩
  rw [cell_of_row _ _ _ _ _ _ (heap_alloc_new w _)]
  simp [nums, List.getD, hi]
theorem Made.open {e0 : TypeId} {k : IntKind} {w w' : World} {l : List Int} {e : Ending} (h : Made e0 k w l e w') (n : Nat) (hn : l.length = n) :
    ∃ a cap, e = .returned (.slice a n cap) ∧ Sees k w'.heap.size w' a l ∧ Below w.heap.size w w' := by
  subst hn
  obtain ⟨v, rfl, hown, hb⟩ := h
  obtain ⟨a, cap, rfl, _, hs⟩ := sees_own hown
  exact ⟨a, cap, rfl, hs, hb⟩
theorem Sees.take {k : IntKind} {B : Nat} {w : World} {a : Option Addr} {l : List Int} (h : Sees k B w a l) (n : Nat) : Sees k B w a (l.take n) := by
  rcases h with rfl | ⟨b, off, rfl, hB, hc⟩
  · left; simp
  · refine .inr ⟨b, off, rfl, hB, fun i hi => ?_⟩
    have h1 : i < l.length := by simp at hi; omega
    have h2 : i < n := by simp at hi; omega
    rw [hc i h1]
    simp [List.getD, h2]
theorem Bs.take {l : List Int} (h : Bs l) (n : Nat) : Bs (l.take n) := fun x hx => h x (List.mem_of_mem_take hx)
theorem own_cap {k : IntKind} {w : World} {base : Nat} {e : TypeId} {n : Nat} {l : List Int} {a : Option Addr} {m c : Nat} (h : w.ownsRow base e 1 (.slice a m c) n (nums k l)) : m ≤ c := by
  rcases h.2 with ⟨h1, _⟩ | ⟨g, cap, cur, h1, _, _, h2, _⟩
  · injection h1 with _ h2 h3; omega
  · injection h1 with _ h3 h4; omega
theorem Made.openc {e0 : TypeId} {k : IntKind} {w w' : World} {l : List Int} {e : Ending} (h : Made e0 k w l e w') (n : Nat) (hn : l.length = n) :
    ∃ a cap, e = .returned (.slice a n cap) ∧ Sees k w'.heap.size w' a l ∧ Below w.heap.size w w' ∧ n ≤ cap := by
  subst hn
  obtain ⟨v, rfl, hown, hb⟩ := h
  obtain ⟨a, cap, rfl, _, hs⟩ := sees_own hown
  exact ⟨a, cap, rfl, hs, hb, own_cap hown⟩
theorem str_ne {l r : List Int} (hl : Bs l) (hr : Bs r) (h : ¬ l = r) : ((strOfNums l).toList == (strOfNums r).toList) = false := by
  rw [beq_eq_false_iff_ne]
  intro he
  rw [ByteArray.toList_eq, ByteArray.toList_eq] at he
  exact h (strOfNums_inj hl hr (ByteArray.ext (Array.toList_inj.1 he)))
theorem made_zero (k : IntKind) (n : Nat) : (madeCells (Value.int k 0).cells (n * 1)).toList = nums k (List.replicate n 0) := by
  apply List.ext_getElem
  · simp [madeCells, nums]
  · intro i h1 h2
    simp [madeCells, nums, Value.cells, Nat.mod_one]
end Go.Proofs.Ytbpaoiajfjkmfaa
namespace Go.Proofs.Ytbpaoiajfjkmfaa
open Go.RowKit
set_option linter.unusedVariables false
set_option linter.unusedSimpArgs false
abbrev B8 := List UInt8
def byt (s : ByteArray) : B8 := s.data.toList
theorem byt_inj {a b : ByteArray} (h : byt a = byt b) : a = b := ByteArray.ext (Array.toList_inj.1 h)
def lt8 (a b : B8) : Bool := Op.bytesLess a b
theorem lt8_is (a b : B8) : lt8 a b = decide (a < b) := bytesLess_eq a b
theorem lt8_irrefl (a : B8) : lt8 a a = false := by
  rw [lt8_is]; exact decide_eq_false (List.lt_irrefl a)
theorem lt8_trans {a b c : B8} (h : lt8 a b = true) (k : lt8 b c = true) : lt8 a c = true := by
  rw [lt8_is, decide_eq_true_eq] at *
  exact List.lt_trans h k
theorem lt8_tri {a b : B8} (h : lt8 a b = false) (k : lt8 b a = false) : a = b := by
  rw [lt8_is, decide_eq_false_iff_not] at *
  exact List.le_antisymm (List.not_lt.1 k) (List.not_lt.1 h)
theorem lt8_asymm {a b : B8} (h : lt8 a b = true) : lt8 b a = false := by
  cases k : lt8 b a
  · rfl
  · have := lt8_trans h k; rw [lt8_irrefl] at this; cases this
end Go.Proofs.Ytbpaoiajfjkmfaa
namespace Go.Proofs.Ytbpaoiajfjkmfaa
set_option linter.unusedVariables false
set_option linter.unusedSimpArgs false
structure Cm {α : Type} (c : α → α → Int) (E : α → α → Prop) : Prop where
  range : ∀ a b, c a b = -1 ∨ c a b = 0 ∨ c a b = 1
  zero : ∀ a b, c a b = 0 ↔ E a b
  anti : ∀ a b, c b a = -c a b
  trans : ∀ a b d, c a b ≤ 0 → c b d ≤ 0 → c a d ≤ 0
def thenC (x y : Int) : Int := if x = 0 then y else x
theorem Cm.lex {α : Type} {c d : α → α → Int} {E F : α → α → Prop} (hc : Cm c E) (hd : Cm d F) : Cm (fun a b => thenC (c a b) (d a b)) (fun a b => E a b ∧ F a b) := by
  refine ⟨fun a b => ?_, fun a b => ?_, fun a b => ?_, fun a b e h1 h2 => ?_⟩
  · simp only [thenC]
    split
    · exact hd.range a b
    · exact hc.range a b
  · simp only [thenC]
    split
    · next h => rw [hd.zero]; exact ⟨fun x => ⟨(hc.zero a b).1 h, x⟩, fun x => x.2⟩
    · next h => exact ⟨fun x => absurd x h, fun x => absurd ((hc.zero a b).2 x.1) h⟩
  · simp only [thenC]
    rw [hc.anti a b, hd.anti a b]
    by_cases h : c a b = 0
    · rw [if_pos h, if_pos (by omega)]
    · rw [if_neg h, if_neg (by omega)]
  · simp only [thenC] at h1 h2 ⊢
    have k1 : c a b ≤ 0 := by split at h1 <;> omega
    have k2 : c b e ≤ 0 := by split at h2 <;> omega
    have k3 := hc.trans a b e k1 k2
    by_cases h : c a e = 0
    · rw [if_pos h]
      have q1 := hc.anti a e
      have q2 := hc.trans b e a k2 (by omega)
      have q3 := hc.anti a b
      have q4 := hc.trans e a b (by omega) k1
      have q5 := hc.anti b e
      rw [if_pos (by omega)] at h1 h2
      exact hd.trans a b e h1 h2
    · rw [if_neg h]; exact k3
def cmpZ (a b : Int) : Int := if a < b then -1 else if b < a then 1 else 0
def cmpT (a b : ByteArray) : Int := if lt8 (byt a) (byt b) = true then -1 else if lt8 (byt b) (byt a) = true then 1 else 0
theorem cmZ {α : Type} (k : α → Int) : Cm (fun a b => cmpZ (k a) (k b)) (fun a b => k a = k b) := by
  refine ⟨fun a b => ?_, fun a b => ?_, fun a b => ?_, fun a b d h1 h2 => ?_⟩
  all_goals simp only [cmpZ] at *
  all_goals (repeat' split) <;> (try (repeat' split at h1)) <;> (try (repeat' split at h2)) <;> first | omega | (constructor <;> intro <;> omega)
theorem cmT {α : Type} (k : α → ByteArray) : Cm (fun a b => cmpT (k a) (k b)) (fun a b => k a = k b) := by
  refine ⟨fun a b => ?_, fun a b => ?_, fun a b => ?_, fun a b d h1 h2 => ?_⟩
  · simp only [cmpT]
    split
    · exact .inl rfl
    · split
      · exact .inr (.inr rfl)
      · exact .inr (.inl rfl)
  · simp only [cmpT]
    split
    · next h => exact ⟨fun x => by omega, fun x => by rw [x, lt8_irrefl] at h; cases h⟩
    · next h =>
      split
      · next h2 => exact ⟨fun x => by omega, fun x => by rw [x, lt8_irrefl] at h2; cases h2⟩
      · next h2 => exact ⟨fun _ => byt_inj (lt8_tri (by simpa using h) (by simpa using h2)), fun _ => rfl⟩
  · simp only [cmpT]
    by_cases h : lt8 (byt (k a)) (byt (k b)) = true
    · rw [if_pos h, if_neg (by rw [lt8_asymm h]; simp), if_pos h]; rfl
    · rw [if_neg h, if_neg h]
      by_cases h2 : lt8 (byt (k b)) (byt (k a)) = true
      · rw [if_pos h2, if_pos h2]
      · rw [if_neg h2, if_neg h2]; rfl
  · simp only [cmpT] at h1 h2 ⊢
    have g1 : lt8 (byt (k b)) (byt (k a)) = false := by
      cases h : lt8 (byt (k b)) (byt (k a))
      · rfl
      · rw [if_neg (by rw [lt8_asymm h]; simp), if_pos h] at h1; omega
    have g2 : lt8 (byt (k d)) (byt (k b)) = false := by
      cases h : lt8 (byt (k d)) (byt (k b))
      · rfl
      · rw [if_neg (by rw [lt8_asymm h]; simp), if_pos h] at h2; omega
    have g3 : lt8 (byt (k d)) (byt (k a)) = false := by
      rw [lt8_is, decide_eq_false_iff_not] at *
      intro h
      rcases Decidable.em (byt (k a) < byt (k b)) with h5 | h5
      · exact g2 (List.lt_trans h h5)
      · have e := List.le_antisymm (List.not_lt.1 h5) (List.not_lt.1 g1)
        rw [← e] at h
        exact g2 h
    split
    · omega
    · rw [if_neg (by rw [g3]; simp)]; omega
structure AlD where
  kind : Int
  sev : Int
  fn : ByteArray
  file : ByteArray
  line : Int
  expr : ByteArray
def cmpA (a b : AlD) : Int := thenC (cmpT a.file b.file) (thenC (cmpZ a.line b.line) (thenC (cmpT a.fn b.fn) (thenC (cmpZ a.kind b.kind) (thenC (cmpT a.expr b.expr) (cmpZ a.sev b.sev)))))
theorem cmA : Cm cmpA (fun a b => a = b) := by
  have h := (cmT AlD.file).lex ((cmZ AlD.line).lex ((cmT AlD.fn).lex ((cmZ AlD.kind).lex ((cmT AlD.expr).lex (cmZ AlD.sev)))))
  refine ⟨h.range, fun a b => (h.zero a b).trans ⟨fun ⟨h1, h2, h3, h4, h5, h6⟩ => ?_, fun e => by subst e; exact ⟨rfl, rfl, rfl, rfl, rfl, rfl⟩⟩, h.anti, h.trans⟩
  cases a
  cases b
  simp_all
end Go.Proofs.Ytbpaoiajfjkmfaa
namespace Go.Proofs.Ytbpaoiajfjkmfaa
set_option linter.unusedVariables false
set_option linter.unusedSimpArgs false
section Ranks
variable {α K R : Type} [DecidableEq K]
def aheadB (c : α → α → Int) (l : List α) (d : α) (j i : Nat) : Bool := decide (c (l.getD j d) (l.getD i d) < 0) || (decide (c (l.getD j d) (l.getD i d) = 0) && decide (j < i))
def rankL (c : α → α → Int) (key : α → K) (l : List α) (d : α) (i : Nat) : Nat := (List.range l.length).countP fun j => aheadB c l d j i && decide (key (l.getD j d) = key (l.getD i d))
def fingersL (c : α → α → Int) (key : α → K) (one : K → Nat → R) (l : List α) (d : α) : List R := (List.range l.length).map fun i => one (key (l.getD i d)) (rankL c key l d i)
theorem ahead_self {c : α → α → Int} (hc : Cm c (fun a b => a = b)) (l : List α) (d : α) (i : Nat) : aheadB c l d i i = false := by
  unfold aheadB
  rw [(hc.zero _ _).2 rfl]
  simp
theorem ahead_asymm {c : α → α → Int} (hc : Cm c (fun a b => a = b)) {l : List α} {d : α} {i j : Nat} (h : aheadB c l d i j = true) : aheadB c l d j i = false := by
  unfold aheadB at *
  have := hc.anti (l.getD i d) (l.getD j d)
  simp only [Bool.or_eq_true, Bool.and_eq_true, decide_eq_true_eq, Bool.or_eq_false_iff, Bool.and_eq_false_iff, decide_eq_false_iff_not] at h ⊢
  omega
theorem rank_row {c : α → α → Int} (hc : Cm c (fun a b => a = b)) (key : α → K) {l : List α} {d : α} {S p q : List Nat} {i : Nat} (hp : S.Perm (List.range l.length)) (hs : S.Pairwise fun a b => aheadB c l d a b = true) (hS : S = p ++ i :: q) :
    rankL c key l d i = p.countP fun j => decide (key (l.getD j d) = key (l.getD i d)) := by
  unfold rankL
  rw [← hp.countP_eq, hS, List.countP_append, List.countP_cons]
  subst hS
  rw [List.pairwise_append] at hs
  obtain ⟨_, h2, h3⟩ := hs
  rw [List.pairwise_cons] at h2
  have e1 : List.countP (fun j => aheadB c l d j i && decide (key (l.getD j d) = key (l.getD i d))) p = p.countP fun j => decide (key (l.getD j d) = key (l.getD i d)) := by
    apply List.countP_congr
    intro x hx
    rw [h3 x hx i (by simp)]
    simp
  have e2 : List.countP (fun j => aheadB c l d j i && decide (key (l.getD j d) = key (l.getD i d))) q = 0 := by
    rw [List.countP_eq_zero]
    intro x hx
    rw [ahead_asymm hc (h2.1 x hx)]
    simp
  rw [e1, e2, ahead_self hc]
  simp
end Ranks
end Go.Proofs.Ytbpaoiajfjkmfaa
namespace Go.Proofs.Ytbpaoiajfjkmfaa
open Go.Sort
set_option linter.unusedVariables false
set_option linter.unusedSimpArgs false
theorem Cm.on {α β : Type} {c : α → α → Int} {E : α → α → Prop} (h : Cm c E) (g : β → α) : Cm (fun a b => c (g a) (g b)) (fun a b => E (g a) (g b)) :=
  ⟨fun a b => h.range _ _, fun a b => h.zero _ _, fun a b => h.anti _ _, fun a b d => h.trans _ _ _⟩
theorem Cm.swo {α : Type} {c : α → α → Int} (h : Cm c (fun a b => a = b)) : SWO (ltOf c) where
  irrefl x := by
    unfold ltOf
    rw [(h.zero x x).2 rfl]
    rfl
  trans x y z h1 h2 := by
    unfold ltOf at *
    have q := h.trans x y z
    have q2 := h.trans z x y
    have a1 := h.anti x y
    have a2 := h.anti y z
    have a3 := h.anti x z
    simp at h1 h2 ⊢
    omega
  ntrans x y z h1 h2 := by
    unfold ltOf at *
    have q := h.trans z y x
    have a1 := h.anti x y
    have a2 := h.anti y z
    have a3 := h.anti x z
    simp at h1 h2 ⊢
    omega
theorem Cm.tot {α : Type} {c : α → α → Int} (h : Cm c (fun a b => a = b)) (x y : α) (h1 : ltOf c x y = false) (h2 : ltOf c y x = false) : x = y := by
  unfold ltOf at *
  have a1 := h.anti x y
  simp at h1 h2
  exact (h.zero x y).1 (by omega)
def cfF (l : List AlD) (d : AlD) (n : Nat) (i j : Fin n) : Int := thenC (cmpA (l.getD i.val d) (l.getD j.val d)) (cmpZ (i.val : Int) (j.val : Int))
theorem cmF (l : List AlD) (d : AlD) (n : Nat) : Cm (cfF l d n) (fun a b => a = b) := by
  have h := (cmA.on (fun i : Fin n => l.getD i.val d)).lex (cmZ (fun i : Fin n => (i.val : Int)))
  refine ⟨h.range, fun a b => (h.zero a b).trans ⟨fun ⟨_, h2⟩ => Fin.ext (by omega), fun e => by subst e; exact ⟨rfl, rfl⟩⟩, h.anti, h.trans⟩
theorem cf_ahead (l : List AlD) (d : AlD) (n : Nat) (i j : Fin n) : ltOf (cfF l d n) i j = aheadB cmpA l d i.val j.val := by
  unfold ltOf cfF aheadB thenC cmpZ
  by_cases h0 : cmpA (l.getD i.val d) (l.getD j.val d) = 0
  · rw [if_pos h0, h0]
    by_cases h1 : i.val < j.val
    · simp [h1]
    · simp [h1]
      split <;> omega
  · rw [if_neg h0, decide_eq_false h0]
    simp
def placesF (l : List AlD) (d : AlD) (n : Nat) : List Nat := ((List.finRange n).mergeSort fun x y => !(ltOf (cfF l d n)) y x).map fun i => i.val
theorem places_perm (l : List AlD) (d : AlD) (n : Nat) : (placesF l d n).Perm (List.range n) := by
  have h := (List.mergeSort_perm (List.finRange n) (fun x y => !(ltOf (cfF l d n)) y x)).map (fun i : Fin n => i.val)
  have e : (List.finRange n).map (fun i : Fin n => i.val) = List.range n := by
    apply List.ext_getElem
    · simp
    · intro i a b
      simp
  rw [e] at h
  exact h
theorem places_len (l : List AlD) (d : AlD) (n : Nat) : (placesF l d n).length = n := by have := (places_perm l d n).length_eq; simpa using this
theorem places_pair (l : List AlD) (d : AlD) (n : Nat) : (placesF l d n).Pairwise fun a b => aheadB cmpA l d a b = true := by
  have hO := (cmF l d n).swo
  have h := List.pairwise_mergeSort (le := fun x y => !(ltOf (cfF l d n)) y x) (fun a b e h1 h2 => by
    simp only [Bool.not_eq_true'] at *
    exact hO.ntrans e b a h2 h1) (fun a b => by
    simp only [Bool.or_eq_true, Bool.not_eq_true']
    cases h : ltOf (cfF l d n) b a
    · exact .inl rfl
    · right
      cases h2 : ltOf (cfF l d n) a b
      · rfl
      · have := hO.trans a b a h2 h
        rw [hO.irrefl] at this
        cases this) (List.finRange n)
  have hnd : ((List.finRange n).mergeSort (fun x y => !(ltOf (cfF l d n)) y x)).Nodup := (List.mergeSort_perm _ _).nodup_iff.2 (List.nodup_finRange n)
  unfold placesF
  rw [List.pairwise_map]
  refine (h.and hnd).imp fun {a b} ⟨x, y⟩ => ?_
  rw [← cf_ahead l d n]
  cases h2 : ltOf (cfF l d n) a b
  · exact absurd ((cmF l d n).tot a b h2 (by simpa using x)) y
  · rfl
theorem places_rank {K : Type} [DecidableEq K] (key : AlD → K) (l : List AlD) (d : AlD) {t : Nat} (ht : t < l.length) :
    rankL cmpA key l d ((placesF l d l.length).getD t 0) = ((placesF l d l.length).take t).countP fun j => decide (key (l.getD j d) = key (l.getD ((placesF l d l.length).getD t 0) d)) := by
  have hlen := places_len l d l.length
  refine rank_row cmA key (places_perm l d l.length) (places_pair l d l.length) (q := (placesF l d l.length).drop (t + 1)) ?_
  have e : (placesF l d l.length).getD t 0 = (placesF l d l.length)[t]'(by omega) := by simp [List.getD, hlen, ht]
  rw [e, ← List.drop_eq_getElem_cons (by omega), List.take_append_drop]
theorem places_lt (l : List AlD) (d : AlD) (n : Nat) {t : Nat} (ht : t < n) : (placesF l d n).getD t 0 < n := by
  have hlen := places_len l d n
  have h : (placesF l d n).getD t 0 ∈ placesF l d n := by simp [List.getD, hlen, ht]
  have := (places_perm l d n).mem_iff.1 h
  simpa using this
theorem places_at (l : List AlD) (d : AlD) (n : Nat) {i : Nat} (hi : i < n) : ∃ t, t < n ∧ (placesF l d n).getD t 0 = i := by
  have hlen := places_len l d n
  have h : i ∈ placesF l d n := (places_perm l d n).mem_iff.2 (by simpa using hi)
  obtain ⟨t, ht, e⟩ := List.getElem_of_mem h
  exact ⟨t, by omega, by simp [List.getD, ht, e]⟩
end Go.Proofs.Ytbpaoiajfjkmfaa
namespace Go.Proofs.Ytbpaoiajfjkmfaa
open Go.RowKit
set_option linter.unusedVariables false
def codes (s : ByteArray) : List Int := s.data.toList.map fun b => (b.toNat : Int)
theorem codes_length (s : ByteArray) : (codes s).length = s.size := by
  unfold codes; rw [List.length_map, Array.length_toList]; rfl
theorem codes_bs (s : ByteArray) : Bs (codes s) := by
  intro x hx
  obtain ⟨b, _, rfl⟩ := List.mem_map.1 hx
  have := b.toNat_lt
  omega
theorem codes_at (s : ByteArray) (k : Nat) (h : k < s.size) : (codes s).getD k 0 = ((s[k]'h).toNat : Int) := by
  have h2 : k < s.data.toList.length := by rw [Array.length_toList]; exact h
  simp only [codes, List.getD, List.getElem?_map, List.getElem?_eq_getElem h2, Option.map_some, Option.getD_some]
  rfl
theorem codes_str {l : List Int} (h : Bs l) : codes (strOfNums l) = l := by
  unfold codes
  rw [strOfNums_data, List.map_map]
  conv => rhs; rw [← List.map_id l]
  apply List.map_congr_left
  intro x hx
  have := h x hx
  simp only [Function.comp, UInt8.toNat_ofNat', id]
  omega
end Go.Proofs.Ytbpaoiajfjkmfaa
namespace Go.Proofs.Ytbpaoiajfjkmfaa
open Go.RowKit
set_option linter.unusedVariables false
set_option linter.unusedSimpArgs false
def letB (c : Int) : Bool := decide ((97 ≤ c ∧ c ≤ 122) ∨ (65 ≤ c ∧ c ≤ 90) ∨ c = 95)
def wdB (c : Int) : Bool := letB c || decide ((48 ≤ c ∧ c ≤ 57) ∨ c = 46)
set_option maxHeartbeats 1000000 in
theorem wordByte_any (c : Int) (h0 : 0 ≤ c) (h1 : c ≤ 255) (w : World) :
    Calls Try.prog 60 #[.int .u8 c] w fun e w' => e = .returned (.bool (wdB c)) ∧ w = w' := by
  by_cases r0 : c ≤ 45
  · have hv : wdB c = false := by simp [wdB, letB]; omega
    rw [hv]
    have a0 : ¬ 97 ≤ c := by omega
    have a1 : c ≤ 122 := by omega
    have a2 : ¬ 65 ≤ c := by omega
    have a3 : c ≤ 90 := by omega
    have a4 : (c == 95) = false := by simp; omega
    have b4 : ¬ c = 95 := by omega
    have a5 : ¬ 48 ≤ c := by omega
    have a6 : c ≤ 57 := by omega
    have a7 : (c == 46) = false := by simp; omega
    have b7 : ¬ c = 46 := by omega
    clear hv
    go_enter Try.func60, Try.ntmps60
    go_wp2
    go_ret
    first | exact ⟨rfl, rfl⟩ | exact ⟨by simp; omega, rfl⟩
  by_cases r46 : c ≤ 46
  · have hv : wdB c = true := by simp [wdB, letB]; omega
    rw [hv]
    obtain rfl : c = 46 := by omega
    clear hv
    go_enter Try.func60, Try.ntmps60
    go_wp2
    go_ret
    first | exact ⟨rfl, rfl⟩ | exact ⟨by simp; omega, rfl⟩
  by_cases r47 : c ≤ 47
  · have hv : wdB c = false := by simp [wdB, letB]; omega
    rw [hv]
    obtain rfl : c = 47 := by omega
    clear hv
    go_enter Try.func60, Try.ntmps60
    go_wp2
    go_ret
    first | exact ⟨rfl, rfl⟩ | exact ⟨by simp; omega, rfl⟩
  by_cases r48 : c ≤ 57
  · have hv : wdB c = true := by simp [wdB, letB]; omega
    rw [hv]
    have a0 : ¬ 97 ≤ c := by omega
    have a1 : c ≤ 122 := by omega
    have a2 : ¬ 65 ≤ c := by omega
    have a3 : c ≤ 90 := by omega
    have a4 : (c == 95) = false := by simp; omega
    have b4 : ¬ c = 95 := by omega
    have a5 : 48 ≤ c := by omega
    have a6 : c ≤ 57 := by omega
    have a7 : (c == 46) = false := by simp; omega
    have b7 : ¬ c = 46 := by omega
    clear hv
    go_enter Try.func60, Try.ntmps60
    go_wp2
    go_ret
    first | exact ⟨rfl, rfl⟩ | exact ⟨by simp; omega, rfl⟩
  by_cases r58 : c ≤ 64
  · have hv : wdB c = false := by simp [wdB, letB]; omega
    rw [hv]
    have a0 : ¬ 97 ≤ c := by omega
    have a1 : c ≤ 122 := by omega
    have a2 : ¬ 65 ≤ c := by omega
    have a3 : c ≤ 90 := by omega
    have a4 : (c == 95) = false := by simp; omega
    have b4 : ¬ c = 95 := by omega
    have a5 : 48 ≤ c := by omega
    have a6 : ¬ c ≤ 57 := by omega
    have a7 : (c == 46) = false := by simp; omega
    have b7 : ¬ c = 46 := by omega
    clear hv
    go_enter Try.func60, Try.ntmps60
    go_wp2
    go_ret
    first | exact ⟨rfl, rfl⟩ | exact ⟨by simp; omega, rfl⟩
  by_cases r65 : c ≤ 90
  · have hv : wdB c = true := by simp [wdB, letB]; omega
    rw [hv]
    have a0 : ¬ 97 ≤ c := by omega
    have a1 : c ≤ 122 := by omega
    have a2 : 65 ≤ c := by omega
    have a3 : c ≤ 90 := by omega
    have a4 : (c == 95) = false := by simp; omega
    have b4 : ¬ c = 95 := by omega
    have a5 : 48 ≤ c := by omega
    have a6 : ¬ c ≤ 57 := by omega
    have a7 : (c == 46) = false := by simp; omega
    have b7 : ¬ c = 46 := by omega
    clear hv
    go_enter Try.func60, Try.ntmps60
    go_wp2
    go_ret
    first | exact ⟨rfl, rfl⟩ | exact ⟨by simp; omega, rfl⟩
  by_cases r91 : c ≤ 94
  · have hv : wdB c = false := by simp [wdB, letB]; omega
    rw [hv]
    have a0 : ¬ 97 ≤ c := by omega
    have a1 : c ≤ 122 := by omega
    have a2 : 65 ≤ c := by omega
    have a3 : ¬ c ≤ 90 := by omega
    have a4 : (c == 95) = false := by simp; omega
    have b4 : ¬ c = 95 := by omega
    have a5 : 48 ≤ c := by omega
    have a6 : ¬ c ≤ 57 := by omega
    have a7 : (c == 46) = false := by simp; omega
    have b7 : ¬ c = 46 := by omega
    clear hv
    go_enter Try.func60, Try.ntmps60
    go_wp2
    go_ret
    first | exact ⟨rfl, rfl⟩ | exact ⟨by simp; omega, rfl⟩
  by_cases r95 : c ≤ 95
  · have hv : wdB c = true := by simp [wdB, letB]; omega
    rw [hv]
    obtain rfl : c = 95 := by omega
    clear hv
    go_enter Try.func60, Try.ntmps60
    go_wp2
    go_ret
    first | exact ⟨rfl, rfl⟩ | exact ⟨by simp; omega, rfl⟩
  by_cases r96 : c ≤ 96
  · have hv : wdB c = false := by simp [wdB, letB]; omega
    rw [hv]
    obtain rfl : c = 96 := by omega
    clear hv
    go_enter Try.func60, Try.ntmps60
    go_wp2
    go_ret
    first | exact ⟨rfl, rfl⟩ | exact ⟨by simp; omega, rfl⟩
  by_cases r97 : c ≤ 122
  · have hv : wdB c = true := by simp [wdB, letB]; omega
    rw [hv]
    have a0 : 97 ≤ c := by omega
    have a1 : c ≤ 122 := by omega
    have a2 : 65 ≤ c := by omega
    have a3 : ¬ c ≤ 90 := by omega
    have a4 : (c == 95) = false := by simp; omega
    have b4 : ¬ c = 95 := by omega
    have a5 : 48 ≤ c := by omega
    have a6 : ¬ c ≤ 57 := by omega
    have a7 : (c == 46) = false := by simp; omega
    have b7 : ¬ c = 46 := by omega
    clear hv
    go_enter Try.func60, Try.ntmps60
    go_wp2
    go_ret
    first | exact ⟨rfl, rfl⟩ | exact ⟨by simp; omega, rfl⟩
  have hv : wdB c = false := by simp [wdB, letB]; omega
  rw [hv]
  have a0 : 97 ≤ c := by omega
  have a1 : ¬ c ≤ 122 := by omega
  have a2 : 65 ≤ c := by omega
  have a3 : ¬ c ≤ 90 := by omega
  have a4 : (c == 95) = false := by simp; omega
  have b4 : ¬ c = 95 := by omega
  have a5 : 48 ≤ c := by omega
  have a6 : ¬ c ≤ 57 := by omega
  have a7 : (c == 46) = false := by simp; omega
  have b7 : ¬ c = 46 := by omega
  clear hv
  go_enter Try.func60, Try.ntmps60
  go_wp2
  go_ret
  first | exact ⟨rfl, rfl⟩ | exact ⟨by simp; omega, rfl⟩
set_option maxHeartbeats 1000000 in
theorem letter_any (c : Int) (h0 : 0 ≤ c) (h1 : c ≤ 255) (w : World) :
    Calls Try.prog 57 #[.int .u8 c] w fun e w' => e = .returned (.bool (letB c)) ∧ w = w' := by
  by_cases r0 : c ≤ 45
  · have hv : letB c = false := by simp [letB]; omega
    rw [hv]
    have a0 : ¬ 97 ≤ c := by omega
    have a1 : c ≤ 122 := by omega
    have a2 : ¬ 65 ≤ c := by omega
    have a3 : c ≤ 90 := by omega
    have a4 : (c == 95) = false := by simp; omega
    have b4 : ¬ c = 95 := by omega
    clear hv
    go_enter Try.func57, Try.ntmps57
    go_wp2
    go_ret
    first | exact ⟨rfl, rfl⟩ | exact ⟨by simp; omega, rfl⟩
  by_cases r46 : c ≤ 46
  · have hv : letB c = false := by simp [letB]; omega
    rw [hv]
    obtain rfl : c = 46 := by omega
    clear hv
    go_enter Try.func57, Try.ntmps57
    go_wp2
    go_ret
    first | exact ⟨rfl, rfl⟩ | exact ⟨by simp; omega, rfl⟩
  by_cases r47 : c ≤ 47
  · have hv : letB c = false := by simp [letB]; omega
    rw [hv]
    obtain rfl : c = 47 := by omega
    clear hv
    go_enter Try.func57, Try.ntmps57
    go_wp2
    go_ret
    first | exact ⟨rfl, rfl⟩ | exact ⟨by simp; omega, rfl⟩
  by_cases r48 : c ≤ 57
  · have hv : letB c = false := by simp [letB]; omega
    rw [hv]
    have a0 : ¬ 97 ≤ c := by omega
    have a1 : c ≤ 122 := by omega
    have a2 : ¬ 65 ≤ c := by omega
    have a3 : c ≤ 90 := by omega
    have a4 : (c == 95) = false := by simp; omega
    have b4 : ¬ c = 95 := by omega
    clear hv
    go_enter Try.func57, Try.ntmps57
    go_wp2
    go_ret
    first | exact ⟨rfl, rfl⟩ | exact ⟨by simp; omega, rfl⟩
  by_cases r58 : c ≤ 64
  · have hv : letB c = false := by simp [letB]; omega
    rw [hv]
    have a0 : ¬ 97 ≤ c := by omega
    have a1 : c ≤ 122 := by omega
    have a2 : ¬ 65 ≤ c := by omega
    have a3 : c ≤ 90 := by omega
    have a4 : (c == 95) = false := by simp; omega
    have b4 : ¬ c = 95 := by omega
    clear hv
    go_enter Try.func57, Try.ntmps57
    go_wp2
    go_ret
    first | exact ⟨rfl, rfl⟩ | exact ⟨by simp; omega, rfl⟩
  by_cases r65 : c ≤ 90
  · have hv : letB c = true := by simp [letB]; omega
    rw [hv]
    have a0 : ¬ 97 ≤ c := by omega
    have a1 : c ≤ 122 := by omega
    have a2 : 65 ≤ c := by omega
    have a3 : c ≤ 90 := by omega
    have a4 : (c == 95) = false := by simp; omega
    have b4 : ¬ c = 95 := by omega
    clear hv
    go_enter Try.func57, Try.ntmps57
    go_wp2
    go_ret
    first | exact ⟨rfl, rfl⟩ | exact ⟨by simp; omega, rfl⟩
  by_cases r91 : c ≤ 94
  · have hv : letB c = false := by simp [letB]; omega
    rw [hv]
    have a0 : ¬ 97 ≤ c := by omega
    have a1 : c ≤ 122 := by omega
    have a2 : 65 ≤ c := by omega
    have a3 : ¬ c ≤ 90 := by omega
    have a4 : (c == 95) = false := by simp; omega
    have b4 : ¬ c = 95 := by omega
    clear hv
    go_enter Try.func57, Try.ntmps57
    go_wp2
    go_ret
    first | exact ⟨rfl, rfl⟩ | exact ⟨by simp; omega, rfl⟩
  by_cases r95 : c ≤ 95
  · have hv : letB c = true := by simp [letB]; omega
    rw [hv]
    obtain rfl : c = 95 := by omega
    clear hv
    go_enter Try.func57, Try.ntmps57
    go_wp2
    go_ret
    first | exact ⟨rfl, rfl⟩ | exact ⟨by simp; omega, rfl⟩
  by_cases r96 : c ≤ 96
  · have hv : letB c = false := by simp [letB]; omega
    rw [hv]
    obtain rfl : c = 96 := by omega
    clear hv
    go_enter Try.func57, Try.ntmps57
    go_wp2
    go_ret
    first | exact ⟨rfl, rfl⟩ | exact ⟨by simp; omega, rfl⟩
  by_cases r97 : c ≤ 122
  · have hv : letB c = true := by simp [letB]; omega
    rw [hv]
    have a0 : 97 ≤ c := by omega
    have a1 : c ≤ 122 := by omega
    have a2 : 65 ≤ c := by omega
    have a3 : ¬ c ≤ 90 := by omega
    have a4 : (c == 95) = false := by simp; omega
    have b4 : ¬ c = 95 := by omega
    clear hv
    go_enter Try.func57, Try.ntmps57
    go_wp2
    go_ret
    first | exact ⟨rfl, rfl⟩ | exact ⟨by simp; omega, rfl⟩
  have hv : letB c = false := by simp [letB]; omega
  rw [hv]
  have a0 : 97 ≤ c := by omega
  have a1 : ¬ c ≤ 122 := by omega
  have a2 : 65 ≤ c := by omega
  have a3 : ¬ c ≤ 90 := by omega
  have a4 : (c == 95) = false := by simp; omega
  have b4 : ¬ c = 95 := by omega
  clear hv
  go_enter Try.func57, Try.ntmps57
  go_wp2
  go_ret
  first | exact ⟨rfl, rfl⟩ | exact ⟨by simp; omega, rfl⟩
set_option maxHeartbeats 1000000 in
theorem nmore_any (c : Int) (h0 : 0 ≤ c) (h1 : c ≤ 255) (w : World) :
    Calls Try.prog 56 #[.int .u8 c] w fun e w' => e = .returned (.bool (wdB c)) ∧ w = w' := by
  by_cases r0 : c ≤ 45
  · have hv : wdB c = false := by simp [wdB, letB]; omega
    rw [hv]
    have hl : letB c = false := by simp [letB]; omega
    have hc := letter_any c h0 h1 w
    rw [hl] at hc
    have hc' := Lib.hid hc
    clear hc hl
    have a0 : ¬ 48 ≤ c := by omega
    have a1 : c ≤ 57 := by omega
    have a2 : (c == 46) = false := by simp; omega
    have b2 : ¬ c = 46 := by omega
    clear hv
    go_enter Try.func56, Try.ntmps56
    go_wp2_with fail
    refine hc'.out.mono ?_
    rintro e w' ⟨rfl, rfl⟩
    go_wp2
    go_ret
    first | exact ⟨rfl, rfl⟩ | exact ⟨by simp; omega, rfl⟩
  by_cases r46 : c ≤ 46
  · have hv : wdB c = true := by simp [wdB, letB]; omega
    rw [hv]
    have hl : letB c = false := by simp [letB]; omega
    have hc := letter_any c h0 h1 w
    rw [hl] at hc
    have hc' := Lib.hid hc
    clear hc hl
    obtain rfl : c = 46 := by omega
    clear hv
    go_enter Try.func56, Try.ntmps56
    go_wp2_with fail
    refine hc'.out.mono ?_
    rintro e w' ⟨rfl, rfl⟩
    go_wp2
    go_ret
    first | exact ⟨rfl, rfl⟩ | exact ⟨by simp; omega, rfl⟩
  by_cases r47 : c ≤ 47
  · have hv : wdB c = false := by simp [wdB, letB]; omega
    rw [hv]
    have hl : letB c = false := by simp [letB]; omega
    have hc := letter_any c h0 h1 w
    rw [hl] at hc
    have hc' := Lib.hid hc
    clear hc hl
    obtain rfl : c = 47 := by omega
    clear hv
    go_enter Try.func56, Try.ntmps56
    go_wp2_with fail
    refine hc'.out.mono ?_
    rintro e w' ⟨rfl, rfl⟩
    go_wp2
    go_ret
    first | exact ⟨rfl, rfl⟩ | exact ⟨by simp; omega, rfl⟩
  by_cases r48 : c ≤ 57
  · have hv : wdB c = true := by simp [wdB, letB]; omega
    rw [hv]
    have hl : letB c = false := by simp [letB]; omega
    have hc := letter_any c h0 h1 w
    rw [hl] at hc
    have hc' := Lib.hid hc
    clear hc hl
    have a0 : 48 ≤ c := by omega
    have a1 : c ≤ 57 := by omega
    have a2 : (c == 46) = false := by simp; omega
    have b2 : ¬ c = 46 := by omega
    clear hv
    go_enter Try.func56, Try.ntmps56
    go_wp2_with fail
    refine hc'.out.mono ?_
    rintro e w' ⟨rfl, rfl⟩
    go_wp2
    go_ret
    first | exact ⟨rfl, rfl⟩ | exact ⟨by simp; omega, rfl⟩
  by_cases r58 : c ≤ 64
  · have hv : wdB c = false := by simp [wdB, letB]; omega
    rw [hv]
    have hl : letB c = false := by simp [letB]; omega
    have hc := letter_any c h0 h1 w
    rw [hl] at hc
    have hc' := Lib.hid hc
    clear hc hl
    have a0 : 48 ≤ c := by omega
    have a1 : ¬ c ≤ 57 := by omega
    have a2 : (c == 46) = false := by simp; omega
    have b2 : ¬ c = 46 := by omega
    clear hv
    go_enter Try.func56, Try.ntmps56
    go_wp2_with fail
    refine hc'.out.mono ?_
    rintro e w' ⟨rfl, rfl⟩
    go_wp2
    go_ret
    first | exact ⟨rfl, rfl⟩ | exact ⟨by simp; omega, rfl⟩
  by_cases r65 : c ≤ 90
  · have hv : wdB c = true := by simp [wdB, letB]; omega
    rw [hv]
    have hl : letB c = true := by simp [letB]; omega
    have hc := letter_any c h0 h1 w
    rw [hl] at hc
    have hc' := Lib.hid hc
    clear hc hl
    have a0 : 48 ≤ c := by omega
    have a1 : ¬ c ≤ 57 := by omega
    have a2 : (c == 46) = false := by simp; omega
    have b2 : ¬ c = 46 := by omega
    clear hv
    go_enter Try.func56, Try.ntmps56
    go_wp2_with fail
    refine hc'.out.mono ?_
    rintro e w' ⟨rfl, rfl⟩
    go_wp2
    go_ret
    first | exact ⟨rfl, rfl⟩ | exact ⟨by simp; omega, rfl⟩
  by_cases r91 : c ≤ 94
  · have hv : wdB c = false := by simp [wdB, letB]; omega
    rw [hv]
    have hl : letB c = false := by simp [letB]; omega
    have hc := letter_any c h0 h1 w
    rw [hl] at hc
    have hc' := Lib.hid hc
    clear hc hl
    have a0 : 48 ≤ c := by omega
    have a1 : ¬ c ≤ 57 := by omega
    have a2 : (c == 46) = false := by simp; omega
    have b2 : ¬ c = 46 := by omega
    clear hv
    go_enter Try.func56, Try.ntmps56
    go_wp2_with fail
    refine hc'.out.mono ?_
    rintro e w' ⟨rfl, rfl⟩
    go_wp2
    go_ret
    first | exact ⟨rfl, rfl⟩ | exact ⟨by simp; omega, rfl⟩
  by_cases r95 : c ≤ 95
  · have hv : wdB c = true := by simp [wdB, letB]; omega
    rw [hv]
    have hl : letB c = true := by simp [letB]; omega
    have hc := letter_any c h0 h1 w
    rw [hl] at hc
    have hc' := Lib.hid hc
    clear hc hl
    obtain rfl : c = 95 := by omega
    clear hv
    go_enter Try.func56, Try.ntmps56
    go_wp2_with fail
    refine hc'.out.mono ?_
    rintro e w' ⟨rfl, rfl⟩
    go_wp2
    go_ret
    first | exact ⟨rfl, rfl⟩ | exact ⟨by simp; omega, rfl⟩
  by_cases r96 : c ≤ 96
  · have hv : wdB c = false := by simp [wdB, letB]; omega
    rw [hv]
    have hl : letB c = false := by simp [letB]; omega
    have hc := letter_any c h0 h1 w
    rw [hl] at hc
    have hc' := Lib.hid hc
    clear hc hl
    obtain rfl : c = 96 := by omega
    clear hv
    go_enter Try.func56, Try.ntmps56
    go_wp2_with fail
    refine hc'.out.mono ?_
    rintro e w' ⟨rfl, rfl⟩
    go_wp2
    go_ret
    first | exact ⟨rfl, rfl⟩ | exact ⟨by simp; omega, rfl⟩
  by_cases r97 : c ≤ 122
  · have hv : wdB c = true := by simp [wdB, letB]; omega
    rw [hv]
    have hl : letB c = true := by simp [letB]; omega
    have hc := letter_any c h0 h1 w
    rw [hl] at hc
    have hc' := Lib.hid hc
    clear hc hl
    have a0 : 48 ≤ c := by omega
    have a1 : ¬ c ≤ 57 := by omega
    have a2 : (c == 46) = false := by simp; omega
    have b2 : ¬ c = 46 := by omega
    clear hv
    go_enter Try.func56, Try.ntmps56
    go_wp2_with fail
    refine hc'.out.mono ?_
    rintro e w' ⟨rfl, rfl⟩
    go_wp2
    go_ret
    first | exact ⟨rfl, rfl⟩ | exact ⟨by simp; omega, rfl⟩
  have hv : wdB c = false := by simp [wdB, letB]; omega
  rw [hv]
  have hl : letB c = false := by simp [letB]; omega
  have hc := letter_any c h0 h1 w
  rw [hl] at hc
  have hc' := Lib.hid hc
  clear hc hl
  have a0 : 48 ≤ c := by omega
  have a1 : ¬ c ≤ 57 := by omega
  have a2 : (c == 46) = false := by simp; omega
  have b2 : ¬ c = 46 := by omega
  clear hv
  go_enter Try.func56, Try.ntmps56
  go_wp2_with fail
  refine hc'.out.mono ?_
  rintro e w' ⟨rfl, rfl⟩
  go_wp2
  go_ret
  first | exact ⟨rfl, rfl⟩ | exact ⟨by simp; omega, rfl⟩
end Go.Proofs.Ytbpaoiajfjkmfaa
namespace Go.Proofs.Ytbpaoiajfjkmfaa
open Go.RowKit
set_option linter.unusedVariables false
set_option linter.unusedSimpArgs false
def partsL : List Int → List (List Int)
  | [] => []
  | c :: r => if wdB c = true then (c :: r.takeWhile wdB) :: partsL (r.dropWhile wdB) else if c = 32 then partsL r else [c] :: partsL r
termination_by l => l.length
decreasing_by
  all_goals simp_wf
  · have : (r.dropWhile wdB).length ≤ r.length := (List.dropWhile_sublist _).length_le
    omega
theorem partsL_nil : partsL [] = [] := by rw [partsL]
theorem partsL_word {c : Int} {r : List Int} (h : wdB c = true) : partsL (c :: r) = (c :: r.takeWhile wdB) :: partsL (r.dropWhile wdB) := by rw [partsL, if_pos h]
theorem partsL_blank {r : List Int} : partsL (32 :: r) = partsL r := by rw [partsL, if_neg (by decide), if_pos rfl]
theorem partsL_other {c : Int} {r : List Int} (h : wdB c = false) (h2 : c ≠ 32) : partsL (c :: r) = [c] :: partsL r := by rw [partsL, if_neg (by simp [h]), if_neg h2]
theorem take_run {p q : List Int} (hp : ∀ c ∈ p, wdB c = true) (hq : q = [] ∨ ∃ c r, q = c :: r ∧ wdB c = false) : (p ++ q).takeWhile wdB = p ∧ (p ++ q).dropWhile wdB = q := by
  induction p with
  | nil =>
    rcases hq with rfl | ⟨c, r, rfl, hc⟩
    · exact ⟨rfl, rfl⟩
    · simp [List.takeWhile_cons, List.dropWhile_cons, hc]
  | cons a p ih =>
    have ha := hp a (by simp)
    obtain ⟨h1, h2⟩ := ih (fun c hc => hp c (by simp [hc]))
    simp [List.takeWhile_cons, List.dropWhile_cons, ha, h1, h2]
theorem partsL_run {p q : List Int} (h0 : p ≠ []) (hp : ∀ c ∈ p, wdB c = true) (hq : q = [] ∨ ∃ c r, q = c :: r ∧ wdB c = false) : partsL (p ++ q) = p :: partsL q := by
  cases p with
  | nil => exact absurd rfl h0
  | cons a p =>
    have ha := hp a (by simp)
    obtain ⟨h1, h2⟩ := take_run (p := p) (q := q) (fun c hc => hp c (by simp [hc])) hq
    rw [List.cons_append, partsL_word ha, h1, h2]
def more1 (out : List (List Int)) (last c : Int) : List (List Int) :=
  if c = 32 then out else if wdB c = true ∧ wdB last = true then out.dropLast ++ [(out.getLast?.getD []) ++ [c]] else out ++ [[c]]
theorem partsL_ne : ∀ {p : List Int}, (∃ x ∈ p, x ≠ 32) → partsL p ≠ [] := by
  intro p
  induction p with
  | nil => rintro ⟨x, hx, -⟩; simp at hx
  | cons a p ih =>
    rintro ⟨x, hx, h⟩
    by_cases ha : wdB a = true
    · rw [partsL_word ha]; simp
    · by_cases h2 : a = 32
      · subst h2
        rw [partsL_blank]
        rcases List.mem_cons.1 hx with rfl | hx
        · exact absurd rfl h
        · exact ih ⟨x, hx, h⟩
      · rw [partsL_other (by simpa using ha) h2]; simp
theorem last_ne {p : List Int} (h : wdB (p.getLast?.getD 32) = true) : partsL p ≠ [] := by
  cases hp : p.getLast? with
  | none => rw [hp] at h; exact absurd h (by decide)
  | some x =>
    rw [hp] at h
    refine partsL_ne ⟨x, List.mem_of_getLast? hp, fun e => ?_⟩
    subst e
    exact absurd h (by decide)
theorem more1_cons (u : List Int) {X : List (List Int)} {last c : Int} (h : wdB last = true → X ≠ []) : u :: more1 X last c = more1 (u :: X) last c := by
  unfold more1
  by_cases h1 : c = 32
  · rw [if_pos h1, if_pos h1]
  · rw [if_neg h1, if_neg h1]
    by_cases h2 : wdB c = true ∧ wdB last = true
    · rw [if_pos h2, if_pos h2]
      have hX := h h2.2
      cases X with
      | nil => exact absurd rfl hX
      | cons v X => simp [List.dropLast_cons_of_ne_nil, List.getLast?_cons_cons]
    · rw [if_neg h2, if_neg h2]; rfl
theorem partsL_snoc (c : Int) : ∀ (n : Nat) (p : List Int), p.length ≤ n → partsL (p ++ [c]) = more1 (partsL p) (p.getLast?.getD 32) c := by
  intro n
  induction n with
  | zero =>
    intro p hp
    have : p = [] := List.eq_nil_of_length_eq_zero (by omega)
    subst this
    simp only [List.nil_append, partsL_nil, List.getLast?_nil, Option.getD_none]
    unfold more1
    by_cases h1 : c = 32
    · subst h1; rw [partsL_blank, partsL_nil, if_pos rfl]
    · have h32 : wdB 32 = false := by decide
      rw [if_neg h1, if_neg (by simp [h32])]
      by_cases h2 : wdB c = true
      · rw [partsL_word h2]; simp [partsL_nil]
      · rw [partsL_other (by simpa using h2) h1, partsL_nil]; rfl
  | succ n ih =>
    intro p hp
    cases p with
    | nil => exact ih [] (by simp)
    | cons a p =>
      have hne : ∀ (x : Int) (l : List Int), ((x :: l).getLast?.getD 32) = if l = [] then x else l.getLast?.getD 32 := by
        intro x l
        cases l with
        | nil => simp
        | cons y l => simp [List.getLast?_cons_cons]
      by_cases ha : wdB a = true
      · -- a word's run
        have hsplit : ∃ r q, p = r ++ q ∧ (∀ x ∈ r, wdB x = true) ∧ (q = [] ∨ ∃ y z, q = y :: z ∧ wdB y = false) := by
          refine ⟨p.takeWhile wdB, p.dropWhile wdB, (List.takeWhile_append_dropWhile).symm, fun x hx => List.all_eq_true.1 (List.all_takeWhile) x hx, ?_⟩
          cases hq : p.dropWhile wdB with
          | nil => exact .inl rfl
          | cons y z =>
            right
            refine ⟨y, z, rfl, ?_⟩
            have := List.head_dropWhile_not (p := wdB) (l := p) (by rw [hq]; simp)
            simpa [hq] using this
        obtain ⟨r, q, rfl, hr, hq⟩ := hsplit
        have hrun : ∀ x ∈ a :: r, wdB x = true := by
          intro x hx
          rcases List.mem_cons.1 hx with rfl | h
          · exact ha
          · exact hr x h
        have e0 : partsL (a :: (r ++ q)) = (a :: r) :: partsL q := by
          rw [← List.cons_append]; exact partsL_run (by simp) hrun hq
        rcases hq with rfl | ⟨y, z, rfl, hy⟩
        · -- the run goes to the end
          have hlast : wdB ((a :: r).getLast?.getD 32) = true := by
            have : (a :: r).getLast?.getD 32 ∈ a :: r := by
              rw [List.getLast?_eq_some_getLast (by simp)]; exact List.getLast_mem _
            exact hrun _ this
          simp only [List.append_nil] at e0 ⊢
          rw [e0, partsL_nil]
          unfold more1
          by_cases h1 : c = 32
          · subst h1
            rw [if_pos rfl, partsL_run (p := a :: r) (q := [32]) (by simp) hrun (.inr ⟨32, [], rfl, by decide⟩), partsL_blank, partsL_nil]
          · rw [if_neg h1]
            by_cases h2 : wdB c = true
            · rw [if_pos ⟨h2, hlast⟩]
              have := partsL_run (p := (a :: r) ++ [c]) (q := []) (by simp) (fun x hx => by
                rcases List.mem_append.1 hx with h | h
                · exact hrun x h
                · simp at h; subst h; exact h2) (.inl rfl)
              rw [List.append_nil] at this
              rw [this, partsL_nil]; simp
            · have h2' : wdB c = false := by simpa using h2
              rw [if_neg (by simp [h2']), partsL_run (p := a :: r) (q := [c]) (by simp) hrun (.inr ⟨c, [], rfl, h2'⟩), partsL_other h2' h1, partsL_nil]; rfl
        · -- something stands behind the run
          have e1 := ih (y :: z) (by simp at hp ⊢; omega)
          have e2 : partsL (a :: (r ++ y :: z) ++ [c]) = (a :: r) :: partsL (y :: z ++ [c]) := by
            rw [show a :: (r ++ y :: z) ++ [c] = (a :: r) ++ (y :: (z ++ [c])) by simp]
            exact partsL_run (by simp) hrun (.inr ⟨y, z ++ [c], rfl, hy⟩)
          have e3 : (a :: (r ++ y :: z)).getLast?.getD 32 = (y :: z).getLast?.getD 32 := by
            rw [show a :: (r ++ y :: z) = (a :: r) ++ (y :: z) by simp, List.getLast?_append]
            simp [List.getLast?_cons]
          rw [e2, e1, e0, e3]
          exact more1_cons _ fun h => last_ne h
      · have ha' : wdB a = false := by simpa using ha
        have e1 := ih p (by simp at hp; omega)
        by_cases h2 : a = 32
        · subst h2
          rw [List.cons_append, partsL_blank, partsL_blank, e1]
          cases p with
          | nil => simp
          | cons b p => simp [List.getLast?_cons_cons]
        · rw [List.cons_append, partsL_other ha' h2, partsL_other ha' h2, e1]
          cases p with
          | nil =>
            unfold more1
            have h32 : wdB 32 = false := by decide
            simp [partsL_nil, h32, ha']
            split <;> rfl
          | cons b p =>
            rw [List.getLast?_cons_cons]
            exact more1_cons _ fun h => last_ne h
end Go.Proofs.Ytbpaoiajfjkmfaa
namespace Go.Proofs.Ytbpaoiajfjkmfaa
open Go.RowKit
set_option linter.unusedVariables false
theorem run_append_none {P : Program} (w : World) (base : Nat) (t ty e : TypeId) (i : TypeInfo) (size : Nat) (ht : P.underlying t = some (.slice e)) (hi : P.info? e = some i)
    (v : Value) (n : Nat) (xs : List Value) (hown : w.ownsRow base e size v n xs) (c : Nat) : (Builtin.append_ #[t, t] ty #[v, .slice none 0 c]).run P w = .ok v w := by
  rcases hown.2 with ⟨rfl, rfl⟩ | ⟨g, cap, cur, rfl, _, _, hnc, _⟩
  · simp [Builtin.append_, run_underlying ht, sizeOf, typeInfo, hi, Builtin.lenOf, Builtin.firstCells]
  · simp [Builtin.append_, run_underlying ht, sizeOf, typeInfo, hi, Builtin.lenOf, Builtin.firstCells, hnc, storeCells]
end Go.Proofs.Ytbpaoiajfjkmfaa
namespace Go.Proofs.Ytbpaoiajfjkmfaa
open Go.RowKit
set_option linter.unusedVariables false
structure BelowE (X : List Nat) (B : Nat) (w w' : World) : Prop where
  os : w'.os = w.os
  tape : w'.tape = w.tape
  output : w'.output = w.output
  size : w.heap.size ≤ w'.heap.size
  block : ∀ k, k < B → k ∉ X → w'.heap[k]? = w.heap[k]?
theorem BelowE.refl (X : List Nat) (B : Nat) (w : World) : BelowE X B w w := ⟨rfl, rfl, rfl, Nat.le_refl _, fun _ _ _ => rfl⟩
theorem BelowE.of {X : List Nat} {B : Nat} {w w' : World} (h : Below B w w') : BelowE X B w w' := ⟨h.os, h.tape, h.output, h.size, fun k hk _ => h.block k hk⟩
theorem BelowE.none {B : Nat} {w w' : World} (h : BelowE [] B w w') : Below B w w' := ⟨h.os, h.tape, h.output, h.size, fun k hk => h.block k hk (by simp)⟩
theorem BelowE.trans {X : List Nat} {B : Nat} {a b c : World} (h : BelowE X B a b) (k : BelowE X B b c) : BelowE X B a c :=
  ⟨k.os.trans h.os, k.tape.trans h.tape, k.output.trans h.output, Nat.le_trans h.size k.size, fun i hi hx => (k.block i hi hx).trans (h.block i hi hx)⟩
theorem BelowE.mono {X : List Nat} {B B' : Nat} {w w' : World} (h : BelowE X B w w') (hB : B' ≤ B) : BelowE X B' w w' :=
  ⟨h.os, h.tape, h.output, h.size, fun k hk hx => h.block k (Nat.lt_of_lt_of_le hk hB) hx⟩
theorem BelowE.wider {X Y : List Nat} {B : Nat} {w w' : World} (h : BelowE X B w w') (hXY : ∀ x ∈ X, x ∈ Y) : BelowE Y B w w' :=
  ⟨h.os, h.tape, h.output, h.size, fun k hk hx => h.block k hk fun hm => hx (hXY k hm)⟩
theorem BelowE.less {X Y : List Nat} {B : Nat} {w w' : World} (h : BelowE X B w w') (hX : ∀ x ∈ X, x < B → x ∈ Y) : BelowE Y B w w' :=
  ⟨h.os, h.tape, h.output, h.size, fun k hk hx => h.block k hk fun hm => hx (hX k hm hk)⟩
theorem BelowE.drew {X : List Nat} {B : Nat} {a w : World} (h : BelowE X B a w) : BelowE X B a w.drew := ⟨h.os, h.tape, h.output, h.size, h.block⟩
theorem BelowE.drewN {X : List Nat} {B : Nat} {a w : World} (h : BelowE X B a w) (n : Nat) : BelowE X B a (w.drewN n) := ⟨h.os, h.tape, h.output, h.size, h.block⟩
theorem BelowE.alloc {X : List Nat} {B : Nat} {a w : World} (h : BelowE X B a w) (hB : B ≤ w.heap.size) (o : Obj) : BelowE X B a (w.alloc o) :=
  h.trans (.of ((Below.refl B w).alloc hB o))
theorem BelowE.setIn {X : List Nat} {B : Nat} {a w : World} (h : BelowE X B a w) {p : Addr} (hp : p.block ∈ X) (u : Value) : BelowE X B a (w.setCell p u) :=
  h.trans ⟨rfl, rfl, rfl, by simp [World.setCell], fun k _ hx => Below.heap_setCell _ _ _ _ (fun e => hx (e ▸ hp))⟩
theorem BelowE.cell {X : List Nat} {B : Nat} {w w' : World} (h : BelowE X B w w') {p : Addr} (hp : p.block < B) (hx : p.block ∉ X) : w'.cell? p = w.cell? p := World.cell?_of_block (w := w) (h.block p.block hp hx)
def Holds (w : World) (g : Nat) (t : TypeId) (cs : Array Value) : Prop := w.heap[g]? = some (.cells cs t (0, 0))
theorem Holds.lt {w : World} {g : Nat} {t : TypeId} {cs : Array Value} (h : Holds w g t cs) : g < w.heap.size := (Array.getElem?_eq_some_iff.1 h).1
theorem Holds.cell {w : World} {g : Nat} {t : TypeId} {cs : Array Value} (h : Holds w g t cs) (i : Nat) : w.cell? ⟨g, i, none⟩ = cs[i]? := cell_of_row w g i cs t (0, 0) h
theorem Holds.free {w : World} {g : Nat} {t : TypeId} {cs : Array Value} (h : Holds w g t cs) (i : Nat) : w.frozen? ⟨g, i, none⟩ = false := by
  unfold Holds at h; simp [World.frozen?, h]
theorem Holds.new (w : World) (t : TypeId) (cs : Array Value) : Holds (w.alloc (.cells cs t)) w.heap.size t cs := heap_alloc_new w _
theorem Holds.drew {w : World} {g : Nat} {t : TypeId} {cs : Array Value} (h : Holds w g t cs) : Holds w.drew g t cs := h
theorem Holds.drewN {w : World} {g : Nat} {t : TypeId} {cs : Array Value} (h : Holds w g t cs) (n : Nat) : Holds (w.drewN n) g t cs := h
theorem Holds.alloc {w : World} {g : Nat} {t : TypeId} {cs : Array Value} (h : Holds w g t cs) (o : Obj) : Holds (w.alloc o) g t cs := (Below.heap_alloc w o g h.lt).trans h
theorem Holds.set {w : World} {g : Nat} {t : TypeId} {cs : Array Value} (h : Holds w g t cs) (i : Nat) (u : Value) : Holds (w.setCell ⟨g, i, none⟩ u) g t (cs.setIfInBounds i u) := by
  unfold Holds at h ⊢; simp [World.setCell, Array.getElem?_modify, h]
theorem Holds.below {w w' : World} {B g : Nat} {t : TypeId} {cs : Array Value} (h : Holds w g t cs) (hb : Below B w w') (hg : g < B) : Holds w' g t cs := (hb.block g hg).trans h
theorem Holds.belowE {w w' : World} {X : List Nat} {B g : Nat} {t : TypeId} {cs : Array Value} (h : Holds w g t cs) (hb : BelowE X B w w') (hg : g < B) (hx : g ∉ X) : Holds w' g t cs := (hb.block g hg hx).trans h
def SeesE (X : List Nat) (k : IntKind) (B : Nat) (w : World) (a : Option Addr) (l : List Int) : Prop :=
  l = [] ∨ ∃ b off, a = some ⟨b, off, none⟩ ∧ b < B ∧ b ∉ X ∧ ∀ i, i < l.length → w.cell? ⟨b, off + i, none⟩ = some (.int k (l.getD i 0))
theorem SeesE.sees {X k B w a l} (h : SeesE X k B w a l) : Sees k B w a l := by
  rcases h with h | ⟨b, off, h1, h2, _, h3⟩
  · exact .inl h
  · exact .inr ⟨b, off, h1, h2, h3⟩
theorem Sees.out {X k B w a l} (h : Sees k B w a l) (hx : ∀ x ∈ X, B ≤ x) : SeesE X k B w a l := by
  rcases h with h | ⟨b, off, h1, h2, h3⟩
  · exact .inl h
  · exact .inr ⟨b, off, h1, h2, fun hm => by have := hx b hm; omega, h3⟩
theorem SeesE.belowE {X k B w w' a l} (h : SeesE X k B w a l) (hb : BelowE X B w w') : SeesE X k B w' a l := by
  rcases h with h | ⟨b, off, rfl, hB, hx, hc⟩
  · exact .inl h
  · exact .inr ⟨b, off, rfl, hB, hx, fun i hi => (hb.cell (p := ⟨b, off + i, none⟩) hB hx).trans (hc i hi)⟩
theorem SeesE.mono {X k B B' w a l} (h : SeesE X k B w a l) (hb : B ≤ B') : SeesE X k B' w a l := by
  rcases h with h | ⟨b, off, rfl, hB, hx⟩
  · exact .inl h
  · exact .inr ⟨b, off, rfl, by omega, hx⟩
theorem Sees.drewN {k B w a l} (h : Sees k B w a l) (n : Nat) : Sees k B (w.drewN n) a l := h
theorem SeesE.drewN {X k B w a l} (h : SeesE X k B w a l) (n : Nat) : SeesE X k B (w.drewN n) a l := h
theorem BelowE.fromDrew {X : List Nat} {B : Nat} {w w' : World} (h : BelowE X B w.drew w') : BelowE X B w w' := ⟨h.os, h.tape, h.output, h.size, h.block⟩
theorem Below.fromDrew {B : Nat} {w w' : World} (h : Below B w.drew w') : Below B w w' := ⟨h.os, h.tape, h.output, h.size, h.block⟩
theorem Below.drewN {B : Nat} {a w : World} (h : Below B a w) (n : Nat) : Below B a (w.drewN n) := ⟨h.os, h.tape, h.output, h.size, h.block⟩
end Go.Proofs.Ytbpaoiajfjkmfaa
namespace Go.Proofs.Ytbpaoiajfjkmfaa
open Go.RowKit
set_option linter.unusedVariables false
theorem BelowE.grown {X : List Nat} {B : Nat} {a w w' : World} {row : Option Nat} (h : BelowE X B a w) (hg : w.grownBy w' row) (hB : B ≤ w.heap.size) (hr : ∀ k, row = some k → k < B → k ∈ X) : BelowE X B a w' :=
  h.trans ⟨hg.os, hg.tape, hg.output, hg.size, fun k hk hx => hg.block k (by omega) (fun e => hx (hr k e.symm hk))⟩
theorem run_append_foot {P : Program} (w : World) (t ty e : TypeId) (i : TypeInfo) (z : Value) (bytes : Nat) (ht : P.underlying t = some (.slice e)) (hi : P.info? e = some i) (hz : i.zero = some z)
    (hsize : i.size = 1) (hby : i.bytes = bytes) (hzs : z.cells.size = 1) (k : IntKind)
    (v : Value) (l : List Int) (hown : w.ownsRow 0 e 1 v l.length (nums k l))
    (B : Nat) (A : Option Addr) (r : List Int) (hs : Sees k B w A r) (m c : Nat) (hm : m = r.length)
    (hn : l.length + r.length ≤ maxLen) (hby2 : (l.length + r.length) * bytes ≤ 140737488355328) :
    ∃ v' w', (Builtin.append_ #[t, t] ty #[v, .slice A m c]).run P w = .ok v' w' ∧ w'.ownsRow 0 e 1 v' (l ++ r).length (nums k (l ++ r)) ∧ w.grownBy w' v.ownBlock ∧ (v'.ownBlock = v.ownBlock ∨ v'.ownBlock = some w.heap.size) := by
  subst hm
  have hlen : (nums k r).length = r.length * 1 := by simp [nums]
  have hall : ∀ u ∈ nums k r, u.oneCell' = true := by
    intro u hu
    obtain ⟨x, _, rfl⟩ := List.mem_map.1 hu
    rfl
  have e1 : nums k (l ++ r) = nums k l ++ nums k r := by simp [nums]
  have go : ∀ ad : Addr, A = some ad → (∀ j u, (nums k r)[j]? = some u → w.cell? (ad.add j) = some u) →
      ∃ v' w', (Builtin.append_ #[t, t] ty #[v, .slice A r.length c]).run P w = .ok v' w' ∧ w'.ownsRow 0 e 1 v' (l ++ r).length (nums k (l ++ r)) ∧ w.grownBy w' v.ownBlock ∧ (v'.ownBlock = v.ownBlock ∨ v'.ownBlock = some w.heap.size) := by
    intro ad hA hc
    subst hA
    obtain ⟨v', w', hrun, h2, h3, _, h5⟩ := run_append_own_at (P := P) w 0 t ty e i z 1 bytes ht hi hz hsize hby hzs (by omega) v l.length (nums k l) hown ad r.length c (nums k r) hlen hc hall hn hby2 (Nat.zero_le _)
    refine ⟨v', w', hrun, ?_, h3, h5⟩
    rw [List.length_append, e1]; exact h2
  rcases hs with rfl | ⟨b, off, rfl, _, hc⟩
  · cases A with
    | none => exact ⟨v, w, run_append_none w _ t ty e i 1 ht hi v _ _ hown c, by simpa using hown, World.grownBy.refl w _, .inl rfl⟩
    | some ad => exact go ad rfl (by simp [nums])
  · refine go _ rfl fun j u hj => ?_
    have hjr : j < r.length := by
      have := (List.getElem?_eq_some_iff.1 hj).1
      simpa [nums] using this
    have h2 : (⟨b, off, none⟩ : Addr).add j = ⟨b, off + j, none⟩ := by unfold Addr.add; split <;> simp_all
    rw [h2, hc j hjr]
    simp [nums, hjr] at hj
    simp [List.getD, hjr, hj]
theorem wp_append_foot {P : Program} (w : World) {o : Oper} {a : Act} {K : Act → World → Prop} {Q : Exit → Act → World → Prop}
    (s x : Operand) (t : TypeId) (hop : o.op = Op.call { callee := Callee.builtin Builtin.append, args := #[s, x], argTypes := #[t, t] })
    (e : TypeId) (i : TypeInfo) (z : Value) (bytes : Nat) (ht : P.underlying t = some (.slice e)) (hi : P.info? e = some i) (hz : i.zero = some z)
    (hsize : i.size = 1) (hby : i.bytes = bytes) (hzs : z.cells.size = 1) (k : IntKind)
    (v : Value) (l : List Int) (hown : w.ownsRow 0 e 1 v l.length (nums k l))
    (B : Nat) (A : Option Addr) (r : List Int) (hs : Sees k B w A r) (m c : Nat) (hm : m = r.length)
    (hsv : a.eval s = v) (hx : a.eval x = .slice A m c) (hn : l.length + r.length ≤ maxLen) (hby2 : (l.length + r.length) * bytes ≤ 140737488355328)
    (hK : ∀ v' w', w'.ownsRow 0 e 1 v' (l ++ r).length (nums k (l ++ r)) → w.grownBy w' v.ownBlock → (v'.ownBlock = v.ownBlock ∨ v'.ownBlock = some w.heap.size) → K (a.put o.dst v') w') :
    o.wp P a w K Q := by
  obtain ⟨v', w', hrun, h1, h2, h3⟩ := run_append_foot (P := P) w t o.type e i z bytes ht hi hz hsize hby hzs k v l hown B A r hs m c hm hn hby2
  unfold Oper.wp
  simp [execOp, hop, resolve, invoke, builtin, hsv, hx, hrun, Result.andThen]
  exact hK v' w' h1 h2 h3
theorem wpList_append_foot {P : Program} (w : World) {ops : Array Oper} {rest : List Oper} {o : Oper} {a : Act} {Q : Exit → Act → World → Prop}
    (hg : o.guard = none) (s x : Operand) (t : TypeId) (hop : o.op = Op.call { callee := Callee.builtin Builtin.append, args := #[s, x], argTypes := #[t, t] })
    (e : TypeId) (i : TypeInfo) (z : Value) (bytes : Nat) (ht : P.underlying t = some (.slice e)) (hi : P.info? e = some i) (hz : i.zero = some z)
    (hsize : i.size = 1) (hby : i.bytes = bytes) (hzs : z.cells.size = 1) (k : IntKind)
    (v : Value) (l : List Int) (hown : w.ownsRow 0 e 1 v l.length (nums k l))
    (B : Nat) (A : Option Addr) (r : List Int) (hs : Sees k B w A r) (m c : Nat) (hm : m = r.length)
    (hsv : a.eval s = v) (hx : a.eval x = .slice A m c) (hn : l.length + r.length ≤ maxLen) (hby2 : (l.length + r.length) * bytes ≤ 140737488355328)
    (hK : ∀ v' w', w'.ownsRow 0 e 1 v' (l ++ r).length (nums k (l ++ r)) → w.grownBy w' v.ownBlock → (v'.ownBlock = v.ownBlock ∨ v'.ownBlock = some w.heap.size) → wpList P ops Q rest (a.put o.dst v') w') :
    wpList P ops Q (o :: rest) a w := by
  obtain ⟨v', w', hrun, h1, h2, h3⟩ := run_append_foot (P := P) w t o.type e i z bytes ht hi hz hsize hby hzs k v l hown B A r hs m c hm hn hby2
  refine wpList_plain hg fun K hK' => ?_
  unfold Oper.wp
  simp [execOp, hop, resolve, invoke, builtin, hsv, hx, hrun, Result.andThen]
  exact hK' _ _ (hK v' w' h1 h2 h3)
theorem own_from {w : World} {base B : Nat} {e : TypeId} {size n : Nat} {v : Value} {xs : List Value} (h : w.ownsRow base e size v n xs) (hB : ∀ k, v.ownBlock = some k → B ≤ k) : w.ownsRow B e size v n xs := by
  refine ⟨h.1, ?_⟩
  rcases h.2 with h | ⟨g, cap, cur, hv, hg, r⟩
  · exact .inl h
  · exact .inr ⟨g, cap, cur, hv, hB g (by rw [hv]; rfl), r⟩
theorem own_zero {w : World} {base : Nat} {e : TypeId} {size n : Nat} {v : Value} {xs : List Value} (h : w.ownsRow base e size v n xs) : w.ownsRow 0 e size v n xs := own_from h fun _ _ => Nat.zero_le _
theorem own_belowE {w w' : World} {X : List Nat} {base : Nat} {e : TypeId} {size n : Nat} {v : Value} {xs : List Value} (h : w.ownsRow base e size v n xs) (hb : BelowE X w.heap.size w w') (hx : ∀ k, v.ownBlock = some k → k ∉ X) : w'.ownsRow base e size v n xs := by
  refine ⟨h.1, ?_⟩
  rcases h.2 with h | ⟨g, cap, cur, hv, hg, hh, r⟩
  · exact .inl h
  · exact .inr ⟨g, cap, cur, hv, hg, (hb.block g (Array.getElem?_eq_some_iff.1 hh).1 (hx g (by rw [hv]; rfl))).trans hh, r⟩
theorem own_below {w w' : World} {base : Nat} {e : TypeId} {size n : Nat} {v : Value} {xs : List Value} (h : w.ownsRow base e size v n xs) (hb : Below w.heap.size w w') : w'.ownsRow base e size v n xs :=
  own_belowE h (.of hb) (X := []) (by simp)
theorem run_bytes_sees {P : Program} (w : World) (src dst e : TypeId) (s : ByteArray) (hs : P.underlying src = some .string) (hd : P.underlying dst = some (.slice e)) (he : P.underlying e = some (.int .u8)) :
    ∃ c w', (convert src dst (.string s)).run P w = .ok (.slice (some ⟨w.heap.size, 0, none⟩) s.size c) w' ∧ s.size ≤ c ∧ Sees .u8 w'.heap.size w' (some ⟨w.heap.size, 0, none⟩) (codes s) ∧ Below w.heap.size w w' ∧ w'.heap.size = w.heap.size + 1 := by
  refine ⟨_, _, Lib.run_convert_string_bytes w src dst e s hs hd he, grownCap_ge _ _ _ _, ?_, ?_, Lib.bytesWorld_size w e s⟩
  · refine .inr ⟨w.heap.size, 0, rfl, by rw [Lib.bytesWorld_size]; omega, fun j hj => ?_⟩
    rw [codes_length] at hj
    rw [Nat.zero_add, Lib.bytesWorld_cell w e s j hj, codes_at s j hj]
    simp [List.getD, hj]
    rfl
  · exact ⟨rfl, rfl, rfl, by rw [Lib.bytesWorld_size]; omega, fun k hk => Lib.bytesWorld_at_old w e s k hk⟩
end Go.Proofs.Ytbpaoiajfjkmfaa
namespace Go.Proofs.Ytbpaoiajfjkmfaa
open Go.RowKit
set_option linter.unusedVariables false
set_option linter.unusedSimpArgs false
theorem ix (s : ByteArray) (k : Nat) (hk : k < s.size) (W : World) : (Instr.index 9 (.string s) (.int .i64 (k : Int))).run Try.prog W = .ok (.int .u8 ((codes s).getD k 0)) W := by
  rw [run_index_string W 9 s .i64 (k : Int) Try.underlying9, dif_pos ⟨by omega, by omega⟩, codes_at s k hk]
  simp
theorem name2 (X : ByteArray) (c : Int) (h0 : 0 ≤ c) (h1 : c ≤ 255) (hX : codes X = [120, c]) (w : World) :
    Calls Try.prog 44 #[.string X] w fun e w' => e = .returned (.bool (wdB c)) ∧ w = w' := by
  have hs : X.size = 2 := by rw [← codes_length, hX]; rfl
  have i0 : ∀ W, (Instr.index 9 (.string X) (.int .i64 0)).run Try.prog W = .ok (.int .u8 120) W := fun W => by
    have := ix X 0 (by omega) W; rw [hX] at this; simpa using this
  have i1 : ∀ W, (Instr.index 9 (.string X) (.int .i64 1)).run Try.prog W = .ok (.int .u8 c) W := fun W => by
    have := ix X 1 (by omega) W; rw [hX] at this; simpa using this
  have m0 := Lib.hid (nmore_any 120 (by omega) (by omega))
  rw [show wdB 120 = true by decide] at m0
  have m1 := Lib.hid (nmore_any c h0 h1)
  have l0 := Lib.hid (letter_any 120 (by omega) (by omega))
  rw [show letB 120 = true by decide] at l0
  clear hX h0 h1
  generalize wdB c = wb at *
  go_enter Try.func44, Try.ntmps44
  go_wp2
  go_loop [3] (fun i => ∃ k : Nat, k ≤ 2 ∧ Hid (k = 2 → wb = true) ∧ i = .int .i64 k) (fun i => 2 - (intOf i).toNat)
  case atStart => exact ⟨0, by omega, Lib.hid (fun h => by omega), rfl⟩
  case round =>
    obtain ⟨k, hk, hw, rfl⟩ := hrel
    have h3 : k = 0 ∨ k = 1 ∨ k = 2 := by omega
    rcases h3 with rfl | rfl | rfl
    · clear hw
      go_wp2_with fail
      refine (m0.out _).mono ?_
      rintro e w' ⟨rfl, rfl⟩
      go_wp2
      go_round
      case rel => exact ⟨1, by omega, Lib.hid (fun h => by omega), by go_num⟩
      case measure => simp [intOf]
    · clear hw
      go_wp2_with fail
      refine (m1.out _).mono ?_
      rintro e w' ⟨rfl, rfl⟩
      cases hwb : wb
      · have hwb' := Lib.hid hwb
        clear hwb
        go_wp2
        go_ret
        exact ⟨by rw [hwb'.out]; rfl, rfl⟩
      · have hwb' := Lib.hid hwb
        clear hwb
        go_wp2
        go_round
        case rel => exact ⟨2, by omega, Lib.hid (fun _ => hwb'.out), by go_num⟩
        case measure => simp [intOf]
    · have hb := hw.out rfl
      subst hb
      clear hw
      go_wp2_with fail
      refine (l0.out _).mono ?_
      rintro e w' ⟨rfl, rfl⟩
      go_wp2
      go_ret
      exact ⟨rfl, rfl⟩
theorem dword_any (c : Int) (h0 : 0 ≤ c) (h1 : c ≤ 255) (w : World) :
    Calls Try.prog 29 #[.int .u8 c] w fun e w' => e = .returned (.bool (wdB c)) ∧ Below w.heap.size w w' := by
  have hb : Bs [c] := fun x hx => by simp at hx; omega
  have hX : codes (⟨#[120]⟩ ++ strOfNums [c]) = [120, c] := by
    have : strOfNums [120, c] = (⟨#[120]⟩ : ByteArray) ++ strOfNums [c] := by
      apply ByteArray.ext
      apply Array.toList_inj.1
      simp [ByteArray.data_append, strOfNums_data]
    rw [← this]
    exact codes_str (fun x hx => by simp at hx; omega)
  have hn := Lib.hid (name2 (⟨#[120]⟩ ++ strOfNums [c]) c h0 h1 hX)
  have hsz : (strOfNums [c]).size = 1 := by rw [strOfNums_size]; rfl
  have hsee := sees_new .u8 w 5 [c] #[.int .u8 c] rfl (0, 0)
  have hcv : (convert 46 9 (.slice (some ⟨w.heap.size, 0, none⟩) 1 1)).run Try.prog (w.alloc (.cells #[.int .u8 c] 5)) = .ok (.string (strOfNums [c])) (w.alloc (.cells #[.int .u8 c] 5)) := conv_sees _ 9 5 Try.underlying46 Try.underlying5 Try.underlying9 hsee 1 1 rfl
  have hB := Lib.hid ((Below.refl w.heap.size w).alloc (Nat.le_refl _) (.cells #[.int .u8 c] 5))
  clear hX hb hsee h0 h1
  generalize strOfNums [c] = X at *
  generalize wdB c = wb at *
  go_enter Try.func29, Try.ntmps29
  go_wp2_with fail
  refine (hn.out _).mono ?_
  rintro e w' ⟨rfl, rfl⟩
  go_wp2
  go_ret
  exact ⟨rfl, hB.out⟩
end Go.Proofs.Ytbpaoiajfjkmfaa
namespace Go.Proofs.Ytbpaoiajfjkmfaa
open Go.RowKit
set_option linter.unusedVariables false
def txts (l : List ByteArray) : List Value := l.map .string
theorem txts_add (a b : List ByteArray) : txts (a ++ b) = txts a ++ txts b := by simp [txts]
theorem txts_length (l : List ByteArray) : (txts l).length = l.length := by simp [txts]
theorem infoStr : (Try.prog.info? 9).map (fun i => (i.zero, i.size, i.bytes)) = some (some (.string ⟨#[]⟩), 1, 16) := by kernel_rfl
def SeesT (B : Nat) (w : World) (a : Option Addr) (l : List ByteArray) : Prop :=
  l = [] ∨ ∃ b off, a = some ⟨b, off, none⟩ ∧ b < B ∧ ∀ i, i < l.length → w.cell? ⟨b, off + i, none⟩ = some (.string (l.getD i ⟨#[]⟩))
theorem SeesT.below {B : Nat} {w w' : World} {a : Option Addr} {l : List ByteArray} (h : SeesT B w a l) (hb : Below B w w') : SeesT B w' a l := by
  rcases h with h | ⟨b, off, rfl, hB, hc⟩
  · exact .inl h
  · exact .inr ⟨b, off, rfl, hB, fun i hi => (hb.cell (p := ⟨b, off + i, none⟩) hB).trans (hc i hi)⟩
theorem SeesT.mono {B B' : Nat} {w : World} {a : Option Addr} {l : List ByteArray} (h : SeesT B w a l) (hb : B ≤ B') : SeesT B' w a l := by
  rcases h with h | ⟨b, off, rfl, hB, hx⟩
  · exact .inl h
  · exact .inr ⟨b, off, rfl, by omega, hx⟩
theorem sees_ownT {w : World} {base : Nat} {e : TypeId} {v : Value} {n : Nat} {l : List ByteArray} (h : w.ownsRow base e 1 v n (txts l)) :
    ∃ a cap, v = .slice a l.length cap ∧ n = l.length ∧ SeesT w.heap.size w a l := by
  have hn : n = l.length := by have := h.1; simp [txts] at this; omega
  rcases h.2 with ⟨rfl, h0⟩ | ⟨g, cap, cur, rfl, _, hg, _⟩
  · subst hn
    exact ⟨none, 0, by rw [h0], rfl, .inl (List.eq_nil_of_length_eq_zero h0)⟩
  · subst hn
    refine ⟨_, cap, rfl, rfl, .inr ⟨g, 0, rfl, (Array.getElem?_eq_some_iff.1 hg).1, fun i hi => ?_⟩⟩
    have := h.cells (g := g) rfl i (.string (l.getD i ⟨#[]⟩)) (by simp [txts, List.getD, hi])
    have h2 : (⟨g, 0, none⟩ : Addr).add i = ⟨g, 0 + i, none⟩ := by unfold Addr.add; split <;> simp_all
    rw [h2] at this
    exact this
theorem run_append_text {P : Program} (w : World) (t ty e : TypeId) (i : TypeInfo) (z : Value) (bytes : Nat) (ht : P.underlying t = some (.slice e)) (hi : P.info? e = some i) (hz : i.zero = some z)
    (hsize : i.size = 1) (hby : i.bytes = bytes) (hzs : z.cells.size = 1)
    (v : Value) (l : List ByteArray) (hown : w.ownsRow 0 e 1 v l.length (txts l)) (ad : Addr) (s : ByteArray) (c : Nat) (hs : w.cell? ad = some (.string s))
    (hn : l.length + 1 ≤ maxLen) (hby2 : (l.length + 1) * bytes ≤ 140737488355328) :
    ∃ v' w', (Builtin.append_ #[t, t] ty #[v, .slice (some ad) 1 c]).run P w = .ok v' w' ∧ w'.ownsRow 0 e 1 v' (l ++ [s]).length (txts (l ++ [s])) ∧ w.grownBy w' v.ownBlock ∧ (v'.ownBlock = v.ownBlock ∨ v'.ownBlock = some w.heap.size) := by
  obtain ⟨v', w', hrun, h2, h3, _, h5⟩ := run_append_own_at (P := P) w 0 t ty e i z 1 bytes ht hi hz hsize hby hzs (by omega) v l.length (txts l) hown ad 1 c [.string s] (by simp) (fun j u hj => by
    have : j = 0 := by have := (List.getElem?_eq_some_iff.1 hj).1; simp at this; omega
    subst this
    simp at hj
    subst hj
    have h2 : ad.add 0 = ad := by simp [Addr.add]
    rw [h2]; exact hs) (fun u hu => by simp at hu; subst hu; rfl) hn hby2 (Nat.zero_le _)
  refine ⟨v', w', hrun, ?_, h3, h5⟩
  rw [List.length_append, txts_add]; exact h2
theorem wpList_append_text {P : Program} (w : World) {ops : Array Oper} {rest : List Oper} {o : Oper} {a : Act} {Q : Exit → Act → World → Prop}
    (hg : o.guard = none) (s x : Operand) (t : TypeId) (hop : o.op = Op.call { callee := Callee.builtin Builtin.append, args := #[s, x], argTypes := #[t, t] })
    (e : TypeId) (i : TypeInfo) (z : Value) (bytes : Nat) (ht : P.underlying t = some (.slice e)) (hi : P.info? e = some i) (hz : i.zero = some z)
    (hsize : i.size = 1) (hby : i.bytes = bytes) (hzs : z.cells.size = 1)
    (v : Value) (l : List ByteArray) (hown : w.ownsRow 0 e 1 v l.length (txts l)) (ad : Addr) (tx : ByteArray) (c : Nat) (hs : w.cell? ad = some (.string tx))
    (hsv : a.eval s = v) (hx : a.eval x = .slice (some ad) 1 c) (hn : l.length + 1 ≤ maxLen) (hby2 : (l.length + 1) * bytes ≤ 140737488355328)
    (hK : ∀ v' w', w'.ownsRow 0 e 1 v' (l ++ [tx]).length (txts (l ++ [tx])) → w.grownBy w' v.ownBlock → (v'.ownBlock = v.ownBlock ∨ v'.ownBlock = some w.heap.size) → wpList P ops Q rest (a.put o.dst v') w') :
    wpList P ops Q (o :: rest) a w := by
  obtain ⟨v', w', hrun, h1, h2, h3⟩ := run_append_text (P := P) w t o.type e i z bytes ht hi hz hsize hby hzs v l hown ad tx c hs hn hby2
  refine wpList_plain hg fun K hK' => ?_
  unfold Oper.wp
  simp [execOp, hop, resolve, invoke, builtin, hsv, hx, hrun, Result.andThen]
  exact hK' _ _ (hK v' w' h1 h2 h3)
theorem own_set {w : World} {base : Nat} {e : TypeId} {n m c : Nat} {g : Nat} {xs : List Value} (h : w.ownsRow base e 1 (.slice (some ⟨g, 0, none⟩) m c) n xs) (i : Nat) (hi : i < n) (u : Value) :
    (w.setCell ⟨g, i, none⟩ u).ownsRow base e 1 (.slice (some ⟨g, 0, none⟩) m c) n (xs.set i u) := by
  refine ⟨by rw [List.length_set]; exact h.1, ?_⟩
  rcases h.2 with ⟨h1, _⟩ | ⟨g', cap, cur, hv, hg, hh, h1, h2, h3, h4⟩
  · cases h1
  · injection hv with ha hm hc
    injection ha with ha
    injection ha with hgg
    subst hgg hm hc
    refine .inr ⟨g, _, cur.setIfInBounds i u, rfl, hg, ?_, h1, h2, by simpa using h3, ?_⟩
    · simp [World.setCell, Array.getElem?_modify, hh]
    · rw [Array.toList_setIfInBounds, List.take_set, h4]
theorem own_free {w : World} {base : Nat} {e : TypeId} {n m c : Nat} {g : Nat} {xs : List Value} (h : w.ownsRow base e 1 (.slice (some ⟨g, 0, none⟩) m c) n xs) (i : Nat) : w.frozen? ⟨g, i, none⟩ = false := by
  rcases h.2 with ⟨h1, _⟩ | ⟨g', cap, cur, hv, hg, hh, _⟩
  · cases h1
  · injection hv with ha hm hc
    injection ha with ha
    injection ha with hgg
    subst hgg
    simp [World.frozen?, hh]
theorem set_last {xs : List Value} (h : xs ≠ []) (u : Value) : xs.set (xs.length - 1) u = xs.dropLast ++ [u] := by
  obtain ⟨ys, y, rfl⟩ : ∃ ys y, xs = ys ++ [y] := ⟨xs.dropLast, xs.getLast h, (List.dropLast_concat_getLast h).symm⟩
  simp
end Go.Proofs.Ytbpaoiajfjkmfaa
namespace Go.Proofs.Ytbpaoiajfjkmfaa
open Go.RowKit
set_option linter.unusedVariables false
set_option linter.unusedSimpArgs false
theorem cut_codes (s : ByteArray) (i j : Nat) : s.extract i j = strOfNums (((codes s).take j).drop i) := by
  apply ByteArray.ext
  apply Array.toList_inj.1
  rw [ByteArray.data_extract, Array.toList_extract, List.extract_eq_take_drop, strOfNums_data]
  unfold codes
  rw [← List.map_take, ← List.map_drop, List.map_map]
  conv => lhs; rw [← List.map_id ((s.data.toList.drop i).take (j - i))]
  rw [List.drop_take]
  apply List.map_congr_left
  intro b _
  simp
theorem cut_lh (s : ByteArray) (i j : Nat) (h1 : i ≤ j) (h2 : j ≤ s.size) (W : World) : (Instr.slice 9 (.string s) (some (.int .i64 (i : Int))) (some (.int .i64 (j : Int))) none).run Try.prog W = .ok (.string (strOfNums (((codes s).take j).drop i))) W := by
  rw [← cut_codes]
  have := run_slice_string W 9 s .i64 .i64 (i : Int) (j : Int) Try.underlying9 (by omega) (by omega) (by omega)
  simpa using this
theorem cut_l (s : ByteArray) (i : Nat) (h1 : i ≤ s.size) (W : World) : (Instr.slice 9 (.string s) (some (.int .i64 (i : Int))) none none).run Try.prog W = .ok (.string (strOfNums ((codes s).drop i))) W := by
  have := run_slice_string_l W 9 s Try.underlying9 .i64 (i : Int) (by omega) (by omega)
  rw [this]
  simp only [Int.toNat_natCast]
  rw [cut_codes, List.take_of_length_le (by rw [codes_length]; exact Nat.le_refl _)]
def TRow (w : World) (B : Nat) (v : Value) (out : List (List Int)) : Prop := w.ownsRow 0 9 1 v (out.map strOfNums).length (txts (out.map strOfNums)) ∧ ∀ k, v.ownBlock = some k → B ≤ k
def GivesT (ls : List (List Int)) (w : World) (e : Ending) (w' : World) : Prop := ∃ v, e = .returned v ∧ TRow w' w.heap.size v ls ∧ Below w.heap.size w w'
end Go.Proofs.Ytbpaoiajfjkmfaa
namespace Go.Proofs.Ytbpaoiajfjkmfaa
open Go.RowKit
set_option linter.unusedVariables false
set_option linter.unusedSimpArgs false
theorem push {w wr w1 : World} {B : Nat} {v v' : Value} {out : List (List Int)} {x : List Int} (hr : TRow wr B v out) (hb : Below B w wr) (hBw : B ≤ wr.heap.size)
    (own1 : w1.ownsRow 0 9 1 v' (out.map strOfNums ++ [strOfNums x]).length (txts (out.map strOfNums ++ [strOfNums x])))
    (grow1 : (wr.alloc (.cells #[.string (strOfNums x)] 9)).grownBy w1 v.ownBlock) (blk1 : v'.ownBlock = v.ownBlock ∨ v'.ownBlock = some (wr.alloc (.cells #[.string (strOfNums x)] 9)).heap.size) :
    TRow w1 B v' (out ++ [x]) ∧ Below B w w1 := by
  have e : (out ++ [x]).map strOfNums = out.map strOfNums ++ [strOfNums x] := by simp
  refine ⟨⟨by rw [e]; exact own1, fun k hk => ?_⟩, ?_⟩
  · rcases blk1 with h | h
    · exact hr.2 k (by rw [← h]; exact hk)
    · rw [hk] at h
      simp at h
      omega
  · have h1 : Below B w (wr.alloc (.cells #[.string (strOfNums x)] 9)) := hb.alloc hBw _
    exact ((BelowE.of h1 (X := [])).grown grow1 (by simp; omega) (fun k hk hlt => by have := hr.2 k hk; omega)).none
set_option maxRecDepth 100000 in
set_option maxHeartbeats 2000000 in
theorem parts_any (s : ByteArray) (hs : s.size ≤ 100000) (w : World) : Calls Try.prog 59 #[.string s] w (GivesT (partsL (codes s)) w) := by
  obtain ⟨i0, hi, hz0, hz1, hz2⟩ := info_parts infoStr
  have hL' := Lib.hid (codes_length s)
  have hbs' := Lib.hid (codes_bs s)
  have hs' := Lib.hid hs
  have hsi : (s.size : Int) ≤ 100000 := by omega
  clear hs
  go_enter Try.func59, Try.ntmps59
  go_wp2
  go_step3
  go_wp2
  go_step3
  go_wp2
  go_loopg [3, 4] s.size (fun g v i wr => ∃ (k : Nat) (out : List (List Int)), k ≤ s.size ∧ s.size ≤ k + g ∧ i = .int .i64 k ∧ Hid (out.length ≤ k) ∧ Hid (TRow wr w.heap.size v out) ∧ Hid (out ++ partsL ((codes s).drop k) = partsL (codes s)) ∧ Hid (Below w.heap.size w wr))
  case atStart => exact ⟨0, [], by omega, by omega, rfl, Lib.hid (by simp), Lib.hid ⟨⟨rfl, .inl ⟨rfl, rfl⟩⟩, by simp [Value.ownBlock]⟩, Lib.hid (by simp), Lib.hid (Below.refl _ _)⟩
  case round =>
    obtain ⟨k, out, hk, hg, rfl, hok, hrow, hrel2, hB⟩ := hrel
    by_cases hlt : k < s.size
    · obtain ⟨G, rfl⟩ : ∃ G, gk = G + 1 := ⟨gk - 1, by omega⟩
      go_wp2
      go_loopg [3, 4] s.size (fun g2 v i wr2 => ∃ j : Nat, k ≤ j ∧ j < s.size ∧ s.size ≤ j + g2 ∧ v = u3 ∧ i = .int .i64 j ∧ wr2 = wr ∧ Hid (∀ c ∈ ((codes s).take j).drop k, wdB c = true))
      case atStart => exact ⟨k, Nat.le_refl _, hlt, by omega, rfl, rfl, rfl, Lib.hid (by intro c hc; rw [List.drop_of_length_le (by simp; omega)] at hc; simp at hc)⟩
      case round =>
        obtain ⟨j, hkj, hj, hgj, rfl, rfl, rfl, hall⟩ := hrel
        obtain ⟨g2, rfl⟩ : ∃ g2, gk = g2 + 1 := ⟨gk - 1, by omega⟩
        have gi := ix s j hj
        have hc2 := hbs'.out ((codes s).getD j 0) (by
          have : j < (codes s).length := by have := hL'.out; omega
          simp [List.getD, this])
        have hcall := Lib.hid (fun W => wordByte_any ((codes s).getD j 0) (by omega) (by omega) W)
        clear hc2
        have hch := Lib.hid (rfl : (codes s).getD j 0 = (codes s).getD j 0)
        have hjL : Hid (j < (codes s).length) := Lib.hid (by have := hL'.out; omega)
        have hdj : Hid ((codes s).drop j = (codes s).getD j 0 :: (codes s).drop (j + 1)) := Lib.hid (by
          have := hjL.out
          rw [List.drop_eq_getElem_cons this]
          simp [List.getD, this])
        have hall2 : wdB ((codes s).getD j 0) = true → ∀ c ∈ ((codes s).take (j + 1)).drop k, wdB c = true := by
          intro hw c hc
          have hq := hjL.out
          rw [List.take_succ_eq_append_getElem hq, List.drop_append_of_le_length (by simp; omega)] at hc
          rcases List.mem_append.1 hc with h | h
          · exact hall.out c h
          · simp at h
            rw [h]
            simpa [List.getD, hq] using hw
        have hall2' := Lib.hid hall2
        clear hall2 hch
        by_cases hw : wdB ((codes s).getD j 0) = true
        · have ha := Lib.hid (hall2'.out hw)
          rw [hw] at hcall
          clear hall2' hall hdj
          generalize (codes s).getD j 0 = ch at *
          clear hw
          by_cases hend : j + 1 = s.size
          · have hsl := cut_l s k hk
            have hfin : Hid (out ++ [(codes s).drop k] = partsL (codes s)) := Lib.hid (by
              rw [← hrel2.out]
              have h2 := partsL_run (p := (codes s).drop k) (q := []) (by intro e; have := congrArg List.length e; simp at this; have := hL'.out; omega) (by
                have := ha.out
                rw [List.take_of_length_le (by have := hL'.out; omega)] at this
                exact this) (.inl rfl)
              rw [List.append_nil] at h2
              rw [h2, partsL_nil])
            have hei : (j : Int) + 1 = (s.size : Int) := by omega
            clear ha hgj hg
            go_wp2_with fail
            refine (hcall.out _).mono ?_
            rintro e w' ⟨rfl, rfl⟩
            go_wp2_with (at_builtin; refine wpList_append_text _ rfl (.tmp 21) (.tmp 25) 52 rfl 9 i0 (.string ⟨#[]⟩) 16 Try.underlying52 hi hz0 hz1 hz2 rfl u3 (out.map strOfNums) ((own_below hrow.out.1 ((Below.refl _ _).alloc (Nat.le_refl _) _))) _ (strOfNums ((codes s).drop k)) 1 (by simp [go_sem]) rfl rfl (by have := hok.out; have := hs'.out; simp [maxLen]; omega) (by have := hok.out; have := hs'.out; simp; omega) ?_; intro v' w1 own1 grow1 blk1; have hpu := Lib.hid (push hrow.out hB.out hB.out.size own1 grow1 blk1); clear own1 grow1 blk1)
            try rw [Exit.noGoto_ret]
            go_ret
            exact ⟨_, rfl, by rw [← hfin.out]; exact hpu.out.1, hpu.out.2⟩
          · have hei : ¬ ((j : Int) + 1 = (s.size : Int)) := by omega
            go_wp2_with fail
            refine (hcall.out _).mono ?_
            rintro e w' ⟨rfl, rfl⟩
            go_wp2
            go_roundg g2
            case rel => exact ⟨j + 1, by omega, by omega, by omega, rfl, by go_num, rfl, ha⟩
            case measure => omega
        · have hw' : wdB ((codes s).getD j 0) = false := by simpa using hw
          rw [hw'] at hcall
          clear hall2' hw
          by_cases hkj2 : k < j
          · have hsl := cut_lh s k j hkj (by omega)
            have hr : Hid ((out ++ [((codes s).take j).drop k]) ++ partsL ((codes s).drop j) = partsL (codes s)) := Lib.hid (by
              rw [← hrel2.out]
              have h1 : (codes s).drop k = ((codes s).take j).drop k ++ (codes s).drop j := by
                conv => lhs; rw [← List.take_append_drop j (codes s)]
                rw [List.drop_append_of_le_length (by simp; have := hL'.out; omega)]
              rw [h1, partsL_run (p := ((codes s).take j).drop k) (q := (codes s).drop j) (by intro e; have := congrArg List.length e; simp at this; have := hL'.out; omega) hall.out (.inr ⟨_, _, hdj.out, hw'⟩)]
              simp)
            have hol : Hid ((out ++ [((codes s).take j).drop k]).length ≤ j) := Lib.hid (by have := hok.out; simp; omega)
            have hgG : s.size ≤ j + G := by omega
            have hci : (k : Int) < (j : Int) := by omega
            clear hdj hw' hall hgj hg
            generalize (codes s).getD j 0 = ch at *
            go_wp2_with fail
            refine (hcall.out _).mono ?_
            rintro e w' ⟨rfl, rfl⟩
            go_wp2_with (at_builtin; refine wpList_append_text _ rfl (.tmp 30) (.tmp 35) 52 rfl 9 i0 (.string ⟨#[]⟩) 16 Try.underlying52 hi hz0 hz1 hz2 rfl u3 (out.map strOfNums) ((own_below hrow.out.1 ((Below.refl _ _).alloc (Nat.le_refl _) _))) _ (strOfNums (((codes s).take j).drop k)) 1 (by simp [go_sem]) rfl rfl (by have := hok.out; have := hs'.out; simp [maxLen]; omega) (by have := hok.out; have := hs'.out; simp; omega) ?_; intro v' w1 own1 grow1 blk1; have hpu := Lib.hid (push hrow.out hB.out hB.out.size own1 grow1 blk1); clear own1 grow1 blk1)
            go_roundg G
            case rel => exact ⟨j, _, by omega, hgG, rfl, hol, Lib.hid hpu.out.1, hr, Lib.hid hpu.out.2⟩
            case measure => omega
          · have hjk : j = k := by omega
            subst hjk
            have hgG : s.size ≤ j + 1 + G := by omega
            by_cases h32 : (codes s).getD j 0 = 32
            · have hr : Hid (out ++ partsL ((codes s).drop (j + 1)) = partsL (codes s)) := Lib.hid (by
                rw [← hrel2.out, hdj.out, h32, partsL_blank])
              have hol : Hid (out.length ≤ j + 1) := Lib.hid (by have := hok.out; omega)
              rw [h32] at gi hcall
              clear hdj hw' hall hgj hg h32
              go_wp2_with fail
              refine (hcall.out _).mono ?_
              rintro e w' ⟨rfl, rfl⟩
              go_wp2
              go_roundg G
              case rel => exact ⟨j + 1, out, by omega, hgG, by go_num, hol, hrow, hr, hB⟩
              case measure => omega
            · have hsl := cut_lh s j (j + 1) (by omega) (by omega)
              rw [show ((j + 1 : Nat) : Int) = (j : Int) + 1 by omega] at hsl
              have hone : ((codes s).take (j + 1)).drop j = [(codes s).getD j 0] := by
                have hq := hjL.out
                rw [List.take_succ_eq_append_getElem hq, List.drop_append_of_le_length (by simp; omega), List.drop_of_length_le (by simp; omega)]
                simp [List.getD, hq]
              rw [hone] at hsl
              have hr : Hid ((out ++ [[(codes s).getD j 0]]) ++ partsL ((codes s).drop (j + 1)) = partsL (codes s)) := Lib.hid (by
                rw [← hrel2.out, hdj.out, partsL_other hw' h32]; simp)
              have hol : Hid ((out ++ [[(codes s).getD j 0]]).length ≤ j + 1) := Lib.hid (by have := hok.out; simp; omega)
              have hne : ((codes s).getD j 0 != 32) = true := by simpa using h32
              clear hdj hw' hall hgj hg hone
              generalize (codes s).getD j 0 = ch at *
              go_wp2_with fail
              refine (hcall.out _).mono ?_
              rintro e w' ⟨rfl, rfl⟩
              go_wp2_with (at_builtin; refine wpList_append_text _ rfl (.tmp 41) (.tmp 47) 52 rfl 9 i0 (.string ⟨#[]⟩) 16 Try.underlying52 hi hz0 hz1 hz2 rfl u3 (out.map strOfNums) ((own_below hrow.out.1 ((Below.refl _ _).alloc (Nat.le_refl _) _))) _ (strOfNums ([ch])) 1 (by simp [go_sem]) rfl rfl (by have := hok.out; have := hs'.out; simp [maxLen]; omega) (by have := hok.out; have := hs'.out; simp; omega) ?_; intro v' w1 own1 grow1 blk1; have hpu := Lib.hid (push hrow.out hB.out hB.out.size own1 grow1 blk1); clear own1 grow1 blk1)
              go_roundg G
              case rel => exact ⟨j + 1, _, by omega, hgG, by go_num, hol, Lib.hid hpu.out.1, hr, Lib.hid hpu.out.2⟩
              case measure => omega
    · have hres : GivesT (partsL (codes s)) w (.returned u3) wr := by
        have h1 := hrel2.out
        rw [List.drop_of_length_le (by have := hL'.out; omega), partsL_nil, List.append_nil] at h1
        rw [← h1]
        exact ⟨_, rfl, hrow.out, hB.out⟩
      go_wp2
      try rw [Exit.noGoto_ret]
      go_ret
      exact hres
end Go.Proofs.Ytbpaoiajfjkmfaa
namespace Go.Proofs
open Go.Shelf
def Try.lays169_ren : Go.Shelf.Ren := ⟨fun | 169 => 63 | n => n, fun | 70 => 80 | 9 => 9 | 0 => 0 | 72 => 82 | 37 => 46 | 127 => 100 | 3 => 3 | 5 => 5 | n => n, fun | n => n⟩
theorem Try.lays169 : Go.Proofs.Lays.n169 Try.prog Try.lays169_ren := {
  mixed := by kernel_rfl
  f169 := Try.func63.trans (congrArg some (by kernel_rfl))
  t0 := Try.underlying0
  a0 := Try.isAgg0
  z0 := Try.sizeOf0
  v0 := Try.zeroValue0
  t3 := Try.underlying3
  a3 := Try.isAgg3
  z3 := Try.sizeOf3
  v3 := Try.zeroValue3
  t9 := Try.underlying9
  a9 := Try.isAgg9
  z9 := Try.sizeOf9
  v9 := Try.zeroValue9
  t37 := Try.underlying46
  a37 := Try.isAgg46
  z37 := Try.sizeOf46
  v37 := Try.zeroValue46
  t70 := Try.underlying80
  a70 := Try.isAgg80
  z70 := Try.sizeOf80
  v70 := Try.zeroValue80
  t72 := Try.underlying82
  a72 := Try.isAgg82
  z72 := Try.sizeOf82
  v72 := Try.zeroValue82
  t127 := Try.underlying100
  a127 := Try.isAgg100
  z127 := Try.sizeOf100
  v127 := Try.zeroValue100 }
theorem Try.Builder_Extra_169 : Builder.Extra Try.prog Try.lays169_ren := {
  sizeBuilder := by kernel_rfl
  liesBuilder := by kernel_rfl
  t5 := Try.underlying5
  a5 := Try.isAgg5
  z5 := Try.sizeOf5
  v5 := Try.zeroValue5
  infoByte := by kernel_rfl
  cellsByte := by kernel_rfl
  sizeByte := by kernel_rfl
  neB5 := by decide }
open Go.RowKit in
theorem Try.Builder_String_any_k (B b : Nat) (l : List UInt8) (w : World) (h : Lib.IsBuilderF 82 5 B b (Lib.byteCells l) w) (hBw : B ≤ w.heap.size) :
    Calls Try.prog 63 #[.pointer (some ⟨b, 0, none⟩)] w fun e w' => e = .returned (.string ⟨l.toArray⟩) ∧ (Lib.IsBuilderF 82 5 B b (Lib.byteCells l) w' ∧ Below B w w' ∧ Lib.OthersKept 5 (some b) w w') := Any.Builder_String_any_k Try.lays169 Try.Builder_Extra_169 B b l w h hBw
def Try.laysSlF6_f39_ren : Go.Shelf.Ren := ⟨fun | 6 => 39 | 15 => 53 | 14 => 52 | 28 => 73 | 29 => 74 | 20 => 65 | 21 => 66 | 22 => 67 | 23 => 68 | 24 => 69 | 25 => 70 | 26 => 71 | 27 => 72 | 46 => 83 | 47 => 84 | 48 => 85 | 49 => 86 | 50 => 87 | 57 => 90 | n => n, fun | 22 => 27 | 24 => 3 | 25 => 56 | 3 => 3 | 39 => 66 | 0 => 0 | 53 => 99 | 55 => 29 | 4 => 4 | 46 => 92 | 45 => 91 | 50 => 96 | 5 => 5 | 9 => 9 | 66 => 101 | 70 => 105 | 76 => 109 | 77 => 110 | n => n, fun | n => n⟩
theorem Try.laysSlF6_f39 : Go.Proofs.SlLaysF.n6 Try.prog Try.laysSlF6_f39_ren := {
  mixed := by kernel_rfl
  f6 := ⟨Try.f39.name, by decide, Try.func39.trans (congrArg some (by kernel_rfl))⟩
  f14 := ⟨Try.f52.name, by decide, Try.func52.trans (congrArg some (by kernel_rfl))⟩
  f15 := Try.func53.trans (congrArg some (by kernel_rfl))
  f20 := ⟨Try.f65.name, by decide, Try.func65.trans (congrArg some (by kernel_rfl))⟩
  f21 := ⟨Try.f66.name, by decide, Try.func66.trans (congrArg some (by kernel_rfl))⟩
  f22 := ⟨Try.f67.name, by decide, Try.func67.trans (congrArg some (by kernel_rfl))⟩
  f23 := ⟨Try.f68.name, by decide, Try.func68.trans (congrArg some (by kernel_rfl))⟩
  f24 := ⟨Try.f69.name, by decide, Try.func69.trans (congrArg some (by kernel_rfl))⟩
  f25 := ⟨Try.f70.name, by decide, Try.func70.trans (congrArg some (by kernel_rfl))⟩
  f26 := ⟨Try.f71.name, by decide, Try.func71.trans (congrArg some (by kernel_rfl))⟩
  f27 := ⟨Try.f72.name, by decide, Try.func72.trans (congrArg some (by kernel_rfl))⟩
  f28 := Try.func73.trans (congrArg some (by kernel_rfl))
  f29 := Try.func74.trans (congrArg some (by kernel_rfl))
  f46 := ⟨Try.f83.name, by decide, Try.func83.trans (congrArg some (by kernel_rfl))⟩
  f47 := Try.func84.trans (congrArg some (by kernel_rfl))
  f48 := Try.func85.trans (congrArg some (by kernel_rfl))
  f49 := ⟨Try.f86.name, by decide, Try.func86.trans (congrArg some (by kernel_rfl))⟩
  f50 := ⟨Try.f87.name, by decide, Try.func87.trans (congrArg some (by kernel_rfl))⟩
  f57 := ⟨Try.f90.name, by decide, Try.func90.trans (congrArg some (by kernel_rfl))⟩
  t0 := Try.underlying0
  a0 := Try.isAgg0
  z0 := Try.sizeOf0
  v0 := Try.zeroValue0
  t3 := Try.underlying3
  a3 := Try.isAgg3
  z3 := Try.sizeOf3
  v3 := Try.zeroValue3
  t4 := Try.underlying4
  a4 := Try.isAgg4
  z4 := Try.sizeOf4
  v4 := Try.zeroValue4
  t5 := Try.underlying5
  a5 := Try.isAgg5
  z5 := Try.sizeOf5
  v5 := Try.zeroValue5
  t9 := Try.underlying9
  a9 := Try.isAgg9
  z9 := Try.sizeOf9
  v9 := Try.zeroValue9
  t22 := Try.underlying27
  a22 := Try.isAgg27
  z22 := Try.sizeOf27
  v22 := Try.zeroValue27
  a24 := Try.isAgg3
  z24 := Try.sizeOf3
  t25 := Try.underlying56
  a25 := Try.isAgg56
  z25 := Try.sizeOf56
  v25 := Try.zeroValue56
  t39 := Try.underlying66
  a39 := Try.isAgg66
  z39 := Try.sizeOf66
  v39 := Try.zeroValue66
  t45 := Try.underlying91
  a45 := Try.isAgg91
  z45 := Try.sizeOf91
  v45 := Try.zeroValue91
  t46 := Try.underlying92
  a46 := Try.isAgg92
  z46 := Try.sizeOf92
  v46 := Try.zeroValue92
  t50 := Try.underlying96
  a50 := Try.isAgg96
  z50 := Try.sizeOf96
  v50 := Try.zeroValue96
  t53 := Try.underlying99
  a53 := Try.isAgg99
  z53 := Try.sizeOf99
  v53 := Try.zeroValue99
  t55 := Try.underlying29
  a55 := Try.isAgg29
  z55 := Try.sizeOf29
  v55 := Try.zeroValue29
  t66 := Try.underlying101
  a66 := Try.isAgg101
  z66 := Try.sizeOf101
  v66 := Try.zeroValue101
  t70 := Try.underlying105
  a70 := Try.isAgg105
  z70 := Try.sizeOf105
  v70 := Try.zeroValue105
  t76 := Try.underlying109
  a76 := Try.isAgg109
  z76 := Try.sizeOf109
  v76 := Try.zeroValue109
  t77 := Try.underlying110
  a77 := Try.isAgg110
  z77 := Try.sizeOf110
  v77 := Try.zeroValue110 }
def Try.laysSlF06_f39_ren : Go.Shelf.Ren := ⟨fun | 6 => 39 | 15 => 53 | 14 => 52 | 28 => 73 | 29 => 74 | 20 => 65 | 21 => 66 | 22 => 67 | 23 => 68 | 24 => 69 | 25 => 70 | 26 => 71 | 27 => 72 | 46 => 83 | 47 => 84 | 48 => 85 | 49 => 86 | 50 => 87 | 57 => 90 | n => n, fun | 22 => 27 | 24 => 3 | 25 => 56 | 3 => 3 | 39 => 66 | 0 => 0 | 53 => 99 | 55 => 29 | 4 => 4 | 46 => 92 | 45 => 91 | 50 => 96 | 5 => 5 | 9 => 9 | 66 => 101 | 70 => 105 | 76 => 109 | 77 => 110 | n => n, fun | n => n⟩
theorem Try.laysSlF06_f39 : Go.Proofs.SlLaysF0.n6 Try.prog Try.laysSlF06_f39_ren := {
  mixed := by kernel_rfl
  f6 := ⟨Try.f39.name, by decide, Try.func39.trans (congrArg some (by kernel_rfl))⟩
  f14 := ⟨Try.f52.name, by decide, Try.func52.trans (congrArg some (by kernel_rfl))⟩
  f15 := Try.func53.trans (congrArg some (by kernel_rfl))
  f20 := ⟨Try.f65.name, by decide, Try.func65.trans (congrArg some (by kernel_rfl))⟩
  f21 := ⟨Try.f66.name, by decide, Try.func66.trans (congrArg some (by kernel_rfl))⟩
  f22 := ⟨Try.f67.name, by decide, Try.func67.trans (congrArg some (by kernel_rfl))⟩
  f23 := ⟨Try.f68.name, by decide, Try.func68.trans (congrArg some (by kernel_rfl))⟩
  f24 := ⟨Try.f69.name, by decide, Try.func69.trans (congrArg some (by kernel_rfl))⟩
  f25 := ⟨Try.f70.name, by decide, Try.func70.trans (congrArg some (by kernel_rfl))⟩
  f26 := ⟨Try.f71.name, by decide, Try.func71.trans (congrArg some (by kernel_rfl))⟩
  f27 := ⟨Try.f72.name, by decide, Try.func72.trans (congrArg some (by kernel_rfl))⟩
  f28 := Try.func73.trans (congrArg some (by kernel_rfl))
  f29 := Try.func74.trans (congrArg some (by kernel_rfl))
  f46 := ⟨Try.f83.name, by decide, Try.func83.trans (congrArg some (by kernel_rfl))⟩
  f47 := Try.func84.trans (congrArg some (by kernel_rfl))
  f48 := Try.func85.trans (congrArg some (by kernel_rfl))
  f49 := ⟨Try.f86.name, by decide, Try.func86.trans (congrArg some (by kernel_rfl))⟩
  f50 := ⟨Try.f87.name, by decide, Try.func87.trans (congrArg some (by kernel_rfl))⟩
  f57 := ⟨Try.f90.name, by decide, Try.func90.trans (congrArg some (by kernel_rfl))⟩
  t0 := Try.underlying0
  a0 := Try.isAgg0
  z0 := Try.sizeOf0
  v0 := Try.zeroValue0
  t3 := Try.underlying3
  a3 := Try.isAgg3
  z3 := Try.sizeOf3
  v3 := Try.zeroValue3
  t4 := Try.underlying4
  a4 := Try.isAgg4
  z4 := Try.sizeOf4
  v4 := Try.zeroValue4
  t5 := Try.underlying5
  a5 := Try.isAgg5
  z5 := Try.sizeOf5
  v5 := Try.zeroValue5
  t9 := Try.underlying9
  a9 := Try.isAgg9
  z9 := Try.sizeOf9
  v9 := Try.zeroValue9
  t22 := Try.underlying27
  a22 := Try.isAgg27
  z22 := Try.sizeOf27
  v22 := Try.zeroValue27
  t25 := Try.underlying56
  a25 := Try.isAgg56
  z25 := Try.sizeOf56
  v25 := Try.zeroValue56
  t39 := Try.underlying66
  a39 := Try.isAgg66
  z39 := Try.sizeOf66
  v39 := Try.zeroValue66
  t45 := Try.underlying91
  a45 := Try.isAgg91
  z45 := Try.sizeOf91
  v45 := Try.zeroValue91
  t46 := Try.underlying92
  a46 := Try.isAgg92
  z46 := Try.sizeOf92
  v46 := Try.zeroValue92
  t50 := Try.underlying96
  a50 := Try.isAgg96
  z50 := Try.sizeOf96
  v50 := Try.zeroValue96
  t53 := Try.underlying99
  a53 := Try.isAgg99
  z53 := Try.sizeOf99
  v53 := Try.zeroValue99
  t55 := Try.underlying29
  a55 := Try.isAgg29
  z55 := Try.sizeOf29
  v55 := Try.zeroValue29
  t66 := Try.underlying101
  a66 := Try.isAgg101
  z66 := Try.sizeOf101
  v66 := Try.zeroValue101
  t70 := Try.underlying105
  a70 := Try.isAgg105
  z70 := Try.sizeOf105
  v70 := Try.zeroValue105
  t76 := Try.underlying109
  a76 := Try.isAgg109
  z76 := Try.sizeOf109
  v76 := Try.zeroValue109
  t77 := Try.underlying110
  a77 := Try.isAgg110
  z77 := Try.sizeOf110
  v77 := Try.zeroValue110 }
open Go.RowKit Go.Lib Go.Sort in
theorem Try.slices_SortFunc_none {α : Type} [Inhabited α] (p : Option Addr) (cap : Nat) (fv : Value) (w : World) :
    Calls Try.prog 39 #[.slice p 0 cap, fv] w fun e w' => e = .returned (.tuple #[]) ∧ w' = w := AnyF.slices_SortFunc_none Try.laysSlF06_f39 p cap fv w
open Go.RowKit Go.Lib Go.Sort in
theorem Try.slices_SortFunc_total {α : Type} [Inhabited α] (enc : α → Value) (h1 : OneCell enc) (cf : α → α → Int) (hO : SWO (ltOf cf)) (g : Nat) (cb : Array Value) (blk off cap : Nat) (d : Array α) (w : World) (eg : ∀ args w, (callFunc g args).run Try.prog w = .ok (.enter g args) w) (hcmp : CmpLays1 Try.prog g cb enc cf blk off d.size w) (hH : Holds enc w blk off d) (hblk : blk < w.heap.size) (hsz : d.size < 4611686018427387904) (hT : ∀ x y, (ltOf cf) x y = false → (ltOf cf) y x = false → x = y) :
    Calls Try.prog 39 #[.slice (some ⟨blk, off, none⟩) d.size cap, .func (.func g) #[] cb] w fun e w' =>
      e = .returned (.tuple #[]) ∧ ∃ n os, w' = sortWorld enc w blk off n (d.toList.mergeSort fun x y => !(ltOf cf) y x).toArray os := Any.slices_SortFunc_total Try.laysSlF6_f39 enc h1 cf hO g cb blk off cap d w eg hcmp hH hblk hsz hT
end Go.Proofs
namespace Go.Proofs.Ytbpaoiajfjkmfaa
open Go.RowKit
set_option linter.unusedVariables false
set_option linter.unusedSimpArgs false
theorem parts_bs : ∀ (n : Nat) {L : List Int}, L.length ≤ n → Bs L → ∀ l ∈ partsL L, Bs l := by
  intro n
  induction n with
  | zero => intro L h hb l hl; obtain rfl : L = [] := List.eq_nil_of_length_eq_zero (by omega); rw [partsL_nil] at hl; simp at hl
  | succ n ih =>
    intro L h hb l hl
    cases L with
    | nil => rw [partsL_nil] at hl; simp at hl
    | cons c r =>
      have hc : Bs r := fun x hx => hb x (by simp [hx])
      by_cases hw : wdB c = true
      · rw [partsL_word hw] at hl
        rcases List.mem_cons.1 hl with rfl | hl
        · intro x hx
          rcases List.mem_cons.1 hx with rfl | hx
          · exact hb _ (by simp)
          · exact hc x ((List.takeWhile_sublist _).subset hx)
        · have hle : (r.dropWhile wdB).length ≤ r.length := (List.dropWhile_sublist _).length_le
          exact ih (by simp at h; omega) (fun x hx => hc x ((List.dropWhile_sublist _).subset hx)) l hl
      · have hw' : wdB c = false := by simpa using hw
        by_cases h2 : c = 32
        · subst h2
          rw [partsL_blank] at hl
          exact ih (by simp at h; omega) hc l hl
        · rw [partsL_other hw' h2] at hl
          rcases List.mem_cons.1 hl with rfl | hl
          · intro x hx; simp at hx; subst hx; exact hb _ (by simp)
          · exact ih (by simp at h; omega) hc l hl
end Go.Proofs.Ytbpaoiajfjkmfaa
namespace Go.Proofs.Ytbpaoiajfjkmfaa
open Go.RowKit
set_option linter.unusedVariables false
set_option linter.unusedSimpArgs false
def hw (p : List Int) : Bool := wdB (p.headD 0)
def normL : Bool → List (List Int) → List Int
  | _, [] => []
  | last, p :: r => (if last && hw p then [32] else []) ++ (p ++ normL (hw p) r)
def normS (L : List Int) : List Int := normL false (partsL L)
def Good (p : List Int) : Prop := (p ≠ [] ∧ ∀ c ∈ p, wdB c = true) ∨ ∃ c, p = [c] ∧ wdB c = false ∧ c ≠ 32
theorem run_split (a : Int) (p : List Int) (ha : wdB a = true) : ∃ r q, p = r ++ q ∧ (∀ x ∈ a :: r, wdB x = true) ∧ (q = [] ∨ ∃ y z, q = y :: z ∧ wdB y = false) := by
  refine ⟨p.takeWhile wdB, p.dropWhile wdB, (List.takeWhile_append_dropWhile).symm, ?_, ?_⟩
  · intro x hx
    rcases List.mem_cons.1 hx with rfl | h
    · exact ha
    · exact List.all_eq_true.1 (List.all_takeWhile) x h
  · cases hq : p.dropWhile wdB with
    | nil => exact .inl rfl
    | cons y z =>
      right
      refine ⟨y, z, rfl, ?_⟩
      have := List.head_dropWhile_not (p := wdB) (l := p) (by rw [hq]; simp)
      simpa [hq] using this
theorem parts_run {a : Int} {r q : List Int} (hr : ∀ x ∈ a :: r, wdB x = true) (hq : q = [] ∨ ∃ y z, q = y :: z ∧ wdB y = false) : partsL (a :: (r ++ q)) = (a :: r) :: partsL q := by
  rw [← List.cons_append]; exact partsL_run (by simp) hr hq
theorem parts_good : ∀ (n : Nat) {L : List Int}, L.length ≤ n → ∀ p ∈ partsL L, Good p := by
  intro n
  induction n with
  | zero => intro L h p hp; obtain rfl : L = [] := List.eq_nil_of_length_eq_zero (by omega); rw [partsL_nil] at hp; simp at hp
  | succ n ih =>
    intro L h p hp
    cases L with
    | nil => rw [partsL_nil] at hp; simp at hp
    | cons c L =>
      by_cases hc : wdB c = true
      · obtain ⟨r, q, rfl, hr, hq⟩ := run_split c L hc
        rw [parts_run hr hq] at hp
        rcases List.mem_cons.1 hp with rfl | hp
        · exact .inl ⟨by simp, hr⟩
        · exact ih (by simp at h; omega) p hp
      · have hc' : wdB c = false := by simpa using hc
        by_cases h2 : c = 32
        · subst h2; rw [partsL_blank] at hp; exact ih (by simp at h; omega) p hp
        · rw [partsL_other hc' h2] at hp
          rcases List.mem_cons.1 hp with rfl | hp
          · exact .inr ⟨c, rfl, hc', h2⟩
          · exact ih (by simp at h; omega) p hp
theorem Good.ne {p : List Int} (h : Good p) : p ≠ [] := by
  rcases h with h | ⟨c, rfl, _⟩
  · exact h.1
  · simp
theorem hw_word {a : Int} {r : List Int} (hr : ∀ x ∈ a :: r, wdB x = true) : hw (a :: r) = true := hr a (by simp)
theorem norm_true_le (ps : List (List Int)) : (normL true ps).length ≤ (normL false ps).length + 1 := by
  cases ps with
  | nil => simp [normL]
  | cons p r => simp only [normL, Bool.true_and, Bool.false_and]; split <;> simp
theorem norm_len : ∀ (n : Nat) {L : List Int}, L.length ≤ n → (normL false (partsL L)).length ≤ L.length := by
  intro n
  induction n with
  | zero => intro L h; obtain rfl : L = [] := List.eq_nil_of_length_eq_zero (by omega); simp [partsL_nil, normL]
  | succ n ih =>
    intro L h
    cases L with
    | nil => simp [partsL_nil, normL]
    | cons c L =>
      by_cases hc : wdB c = true
      · obtain ⟨r, q, rfl, hr, hq⟩ := run_split c L hc
        rw [parts_run hr hq]
        have h3 : (normL true (partsL q)).length ≤ q.length := by
          rcases hq with rfl | ⟨y, z, rfl, hy⟩
          · simp [partsL_nil, normL]
          · have hz := ih (L := z) (by simp at h; omega)
            by_cases h2 : y = 32
            · subst h2
              rw [partsL_blank]
              have := norm_true_le (partsL z)
              simp; omega
            · rw [partsL_other hy h2]
              simp [normL, hw, hy]; exact hz
        simp only [normL, hw_word hr, Bool.false_and]
        simp at h3 ⊢; omega
      · have hc' : wdB c = false := by simpa using hc
        have hz := ih (L := L) (by simp at h; omega)
        by_cases h2 : c = 32
        · subst h2; rw [partsL_blank]; simp; omega
        · rw [partsL_other hc' h2]
          simp [normL, hw, hc']; exact hz
theorem normS_len (L : List Int) : (normS L).length ≤ L.length := norm_len _ (Nat.le_refl _)
theorem norm_bs {ps : List (List Int)} (h : ∀ p ∈ ps, Bs p) (last : Bool) : Bs (normL last ps) := by
  induction ps generalizing last with
  | nil => intro x hx; simp [normL] at hx
  | cons p r ih =>
    intro x hx
    simp only [normL, List.mem_append] at hx
    rcases hx with hx | hx | hx
    · split at hx <;> simp at hx; subst hx; omega
    · exact h p (by simp) x hx
    · exact ih (fun q hq => h q (by simp [hq])) _ x hx
end Go.Proofs.Ytbpaoiajfjkmfaa
