/-
  Words and walks under the law's proof.
-/
import Derived.WalkKit
import Derived.LoopTactic
import Derived.Outline
import Derived.Lib.Hide
import Derived.Laws.BytesArg
import Derived.Sort.Walk0
import Derived.Lib.SlicesCompact
import Derived.Shelf.GgClosure.StringsIndexFuncTop
import Derived.Lib.RuneCount
import Derived.Laws.AppendOwnNone
import Derived.Deep.Draws
import Derived.Deep.QuietTactic
import Derived.BigQuiet
import Derived.WalkSmall
import Derived.Maps.AppendAt
import Derived.Lib.ConvBytes
import Derived.Shelf.Strings.Builder1
import Derived.Shelf.Small.Bits
import Derived.Shelf.Small.Wraps
import Derived.Shelf.Strings.BuilderF
import Derived.Shelf.Strings.BuilderK
import Derived.Shelf.Strconv.Itoa0
import Derived.Shelf.GgClosure.StringsIndexFunc
import Derived.Ground.GgwProg
import Derived.Shelf.GgClosure.StringsRunes
import Derived.Shelf.Strings.FuncGrows
import Derived.Shelf.Strings.BuilderCap
import Derived.Ground.Names2Prog
import Derived.Shelf.Slices.SearchI
import Derived.Test.YtpchncpcckfghaaGreatProg
import Derived.Deep.Slices
import Derived.Deep.Fields
import Derived.ChangeSame
import Derived.SizedLaws
import Derived.Test.YtpchncpcckfghaaGreatRows
import Derived.IntWalk
import Derived.Deep.RegionHeld3
import Derived.Deep.DrawnRows
namespace Go.Proofs.YtpchncpcckfghaaGreat
open Go.RowKit
set_option linter.unusedVariables false
def nums (k : IntKind) (l : List Int) : List Value := l.map (Value.int k)
theorem nums_snoc (k : IntKind) (l : List Int) (x : Int) : nums k (l ++ [x]) = nums k l ++ [.int k x] := by simp [nums]
def Sees (k : IntKind) (B : Nat) (w : World) (a : Option Addr) (l : List Int) : Prop :=
  l = [] ∨ ∃ b off, a = some ⟨b, off, none⟩ ∧ b < B ∧ ∀ i, i < l.length → w.cell? ⟨b, off + i, none⟩ = some (.int k (l.getD i 0))
theorem Sees.below {k B w w' a l} (h : Sees k B w a l) (hb : Below B w w') : Sees k B w' a l := by
  rcases h with h | ⟨b, off, rfl, hB, hc⟩
  · exact .inl h
  · exact .inr ⟨b, off, rfl, hB, fun i hi => (hb.cell (p := ⟨b, off + i, none⟩) hB).trans (hc i hi)⟩
theorem Sees.mono {k B B' w a l} (h : Sees k B w a l) (hb : B ≤ B') : Sees k B' w a l := by
  rcases h with h | ⟨b, off, rfl, hB, hc⟩
  · exact .inl h
  · exact .inr ⟨b, off, rfl, by omega, hc⟩
theorem Sees.nil {k B w a} : Sees k B w a [] := .inl rfl
theorem sees_own {k : IntKind} {w : World} {base : Nat} {e : TypeId} {v : Value} {n : Nat} {l : List Int} (h : w.ownsRow base e 1 v n (nums k l)) :
    ∃ a cap, v = .slice a l.length cap ∧ n = l.length ∧ Sees k w.heap.size w a l := by
  have hn : n = l.length := by have := h.1; simp [nums] at this; omega
  rcases h.2 with ⟨rfl, h0⟩ | ⟨g, cap, cur, rfl, _, hg, _⟩
  · subst hn
    exact ⟨none, 0, by rw [h0], rfl, .inl (List.eq_nil_of_length_eq_zero h0)⟩
  · subst hn
    refine ⟨_, cap, rfl, rfl, .inr ⟨g, 0, rfl, (Array.getElem?_eq_some_iff.1 hg).1, fun i hi => ?_⟩⟩
    have := h.cells (g := g) rfl i (.int k (l.getD i 0)) (by simp [nums, List.getD, hi])
    have h2 : (⟨g, 0, none⟩ : Addr).add i = ⟨g, 0 + i, none⟩ := by unfold Addr.add; split <;> simp_all
    rw [h2] at this
    exact this
def Made (e0 : TypeId) (k : IntKind) (w : World) (l : List Int) (e : Ending) (w' : World) : Prop :=
  ∃ v, e = .returned v ∧ w'.ownsRow w.heap.size e0 1 v l.length (nums k l) ∧ Below w.heap.size w w'
def Gives (v : Value) (w : World) (e : Ending) (w' : World) : Prop := e = .returned v ∧ Below w.heap.size w w'
theorem wpList_append1 {P : Program} (w : World) {ops : Array Oper} {rest : List Oper} {o : Oper} {a : Act} {Q : Exit → Act → World → Prop}
    (hg : o.guard = none) (s x : Operand) (t : TypeId) (hop : o.op = Op.call { callee := Callee.builtin Builtin.append, args := #[s, x], argTypes := #[t, t] })
    (w0 : World) (e : TypeId) (i : TypeInfo) (z : Value) (bytes : Nat) (ht : P.underlying t = some (.slice e)) (hi : P.info? e = some i) (hz : i.zero = some z)
    (hsize : i.size = 1) (hby : i.bytes = bytes) (hzs : z.cells.size = 1) (k : IntKind) (y : Int)
    (v : Value) (l : List Int) (hown : w.ownsRow w0.heap.size e 1 v l.length (nums k l)) (hb : Below w0.heap.size w0 w)
    (hs : a.eval s = v) (hx : a.eval x = .slice (some ⟨w.heap.size, 0, none⟩) 1 1)
    (hn : l.length < 17592186044416) (h8 : bytes ≤ 8)
    (hK : ∀ v' w', w'.ownsRow w0.heap.size e 1 v' (l ++ [y]).length (nums k (l ++ [y])) → Below w0.heap.size w0 w' → wpList P ops Q rest (a.put o.dst v') w') :
    wpList P ops Q (o :: rest) a (w.alloc (.cells #[.int k y] e)) := by
  have hm : (l.length + 1) * bytes ≤ 140737488355328 := Nat.le_trans (Nat.mul_le_mul (by omega : l.length + 1 ≤ 17592186044416) h8) (by omega)
  refine wpList_append_own _ hg s x t hop w0.heap.size e i z 1 bytes ht hi hz hsize hby hzs (by omega) v l.length (nums k l) hs (hown.alloc _) ⟨w.heap.size, 0, none⟩ 1 1 [.int k y] hx rfl ?_ ?_ (by unfold maxLen; omega) hm ?_ ?_
  · intro j u hj
    match j, hj with
    | 0, hj => simp at hj; subst hj; simp [Addr.add]
  · intro u hu; simp at hu; subst hu; rfl
  · have := hb.size; simp; omega
  · intro v' w' hown' hgrow _
    refine hK v' w' (by rw [nums_snoc, List.length_append]; exact hown') ?_
    refine (hb.alloc hb.size _).grown hgrow (by have := hb.size; simp; omega) fun q hq => ?_
    exact (hown.lt q hq).1
theorem conv_sees {P : Program} (src dst e : TypeId) (hs : P.underlying src = some (.slice e)) (he : P.underlying e = some (.int .u8)) (hd : P.underlying dst = some .string)
    {B : Nat} {w : World} {a : Option Addr} {l : List Int} (h : Sees .u8 B w a l) (n c : Nat) (hn : n = l.length) : (convert src dst (.slice a n c)).run P w = .ok (.string (strOfNums l)) w := by
  subst hn
  rcases h with rfl | ⟨b, off, rfl, _, hc⟩
  · cases a with
    | none => exact run_convert_bytes_nil w src e hs he _ _ dst hd
    | some x =>
      have := run_convert_bytes_string (P := P) w src dst e (some x) 0 c hs he hd
      rw [show ([] : List Int).length = 0 from rfl, this]
      have hl : (loadCells x 0).run P w = .ok ([] : List Value).toArray w := run_loadCells_list (P := P) w x [] (by simp)
      rw [run_bytesToString w x 0 c [] (by simpa using hl)]
      rfl
  · exact run_convert_bytes_arg w src e hs he b off _ c l rfl hc dst hd
def Bs (l : List Int) : Prop := ∀ x ∈ l, 0 ≤ x ∧ x ≤ 255
theorem Bs.at {l : List Int} (h : Bs l) {i : Nat} (hi : i < l.length) : 0 ≤ l.getD i 0 ∧ l.getD i 0 ≤ 255 := by
  simp only [List.getD, List.getElem?_eq_getElem hi, Option.getD_some]
  exact h _ (List.getElem_mem _)
theorem strOfNums_inj {l r : List Int} (hl : Bs l) (hr : Bs r) (h : strOfNums l = strOfNums r) : l = r := by
  have h2 : (strOfNums l).data.toList = (strOfNums r).data.toList := by rw [h]
  rw [strOfNums_data, strOfNums_data] at h2
  clear h
  induction l generalizing r with
  | nil => cases r with
    | nil => rfl
    | cons y r => simp at h2
  | cons x l ih => cases r with
    | nil => simp at h2
    | cons y r =>
      simp only [List.map_cons, List.cons.injEq] at h2
      have hx := hl x (by simp)
      have hy := hr y (by simp)
      have h3 : x.toNat = y.toNat := by
        have := congrArg UInt8.toNat h2.1
        simp only [UInt8.toNat_ofNat'] at this
        omega
      rw [show x = y by omega, ih (fun z hz => hl z (by simp [hz])) (fun z hz => hr z (by simp [hz])) h2.2]
theorem i64_wf {n : Int} (h : (Lit.int .i64 n).wf = true) : -9223372036854775808 ≤ n ∧ n ≤ 9223372036854775807 := by
  simpa [Lit.wf, IntKind.min, IntKind.max, IntKind.signed, IntKind.bits] using h
theorem wrap_u64_in {n : Int} (h0 : 0 ≤ n) (h1 : n ≤ 18446744073709551615) : IntKind.u64.wrap n = n := by
  simp [IntKind.wrap, IntKind.bits, IntKind.signed]; omega
theorem u64_quo {n c : Int} (h0 : 0 ≤ n) (h1 : n ≤ 18446744073709551615) (hc : 0 < c) : IntKind.u64.wrap (n.tdiv c) = n / c := by
  rw [Int.tdiv_eq_ediv_of_nonneg h0]
  have h2 : n / c ≤ n := Int.ediv_le_self _ h0
  exact wrap_u64_in (Int.ediv_nonneg h0 (by omega)) (by omega)
theorem ret_bool {a b : Bool} (h : a = b) : Ending.returned (.bool a) = Ending.returned (.bool b) := by rw [h]
theorem sees_new (k : IntKind) (w : World) (e : TypeId) (l : List Int) (cs : Array Value) (h : cs = (nums k l).toArray) (fr : Nat × Nat := (0, 0)) : Sees k (w.heap.size + 1) (w.alloc (.cells cs e fr)) (some ⟨w.heap.size, 0, none⟩) l := by
  subst h
  refine .inr ⟨w.heap.size, 0, rfl, by omega, fun i hi => ?_⟩
  rw [cell_of_row _ _ _ _ _ _ (heap_alloc_new w _)]
  simp [nums, List.getD, hi]
theorem Made.open {e0 : TypeId} {k : IntKind} {w w' : World} {l : List Int} {e : Ending} (h : Made e0 k w l e w') (n : Nat) (hn : l.length = n) :
    ∃ a cap, e = .returned (.slice a n cap) ∧ Sees k w'.heap.size w' a l ∧ Below w.heap.size w w' := by
  subst hn
  obtain ⟨v, rfl, hown, hb⟩ := h
  obtain ⟨a, cap, rfl, _, hs⟩ := sees_own hown
  exact ⟨a, cap, rfl, hs, hb⟩
theorem Sees.take {k : IntKind} {B : Nat} {w : World} {a : Option Addr} {l : List Int} (h : Sees k B w a l) (n : Nat) : Sees k B w a (l.take n) := by
  rcases h with rfl | ⟨b, off, rfl, hB, hc⟩
  · left; simp
  · refine .inr ⟨b, off, rfl, hB, fun i hi => ?_⟩
    have h1 : i < l.length := by simp at hi; omega
    have h2 : i < n := by simp at hi; omega
    rw [hc i h1]
    simp [List.getD, h2]
theorem Bs.take {l : List Int} (h : Bs l) (n : Nat) : Bs (l.take n) := fun x hx => h x (List.mem_of_mem_take hx)
theorem str_ne {l r : List Int} (hl : Bs l) (hr : Bs r) (h : ¬ l = r) : ((strOfNums l).toList == (strOfNums r).toList) = false := by
  rw [beq_eq_false_iff_ne]
  intro he
  rw [ByteArray.toList_eq, ByteArray.toList_eq] at he
  exact h (strOfNums_inj hl hr (ByteArray.ext (Array.toList_inj.1 he)))
theorem made_zero (k : IntKind) (n : Nat) : (madeCells (Value.int k 0).cells (n * 1)).toList = nums k (List.replicate n 0) := by
  apply List.ext_getElem
  · simp [madeCells, nums]
  · intro i h1 h2
    simp [madeCells, nums, Value.cells, Nat.mod_one]
end Go.Proofs.YtpchncpcckfghaaGreat
namespace Go.Proofs.YtpchncpcckfghaaGreat
open Go.RowKit
set_option linter.unusedVariables false
set_option linter.unusedSimpArgs false
abbrev B8 := List UInt8
def byt (s : ByteArray) : B8 := s.data.toList
theorem byt_inj {a b : ByteArray} (h : byt a = byt b) : a = b := ByteArray.ext (Array.toList_inj.1 h)
def lt8 (a b : B8) : Bool := Op.bytesLess a b
theorem lt8_is (a b : B8) : lt8 a b = decide (a < b) := bytesLess_eq a b
theorem lt8_irrefl (a : B8) : lt8 a a = false := by
  rw [lt8_is]; exact decide_eq_false (List.lt_irrefl a)
theorem lt8_trans {a b c : B8} (h : lt8 a b = true) (k : lt8 b c = true) : lt8 a c = true := by
  rw [lt8_is, decide_eq_true_eq] at *
  exact List.lt_trans h k
theorem lt8_tri {a b : B8} (h : lt8 a b = false) (k : lt8 b a = false) : a = b := by
  rw [lt8_is, decide_eq_false_iff_not] at *
  exact List.le_antisymm (List.not_lt.1 k) (List.not_lt.1 h)
theorem lt8_asymm {a b : B8} (h : lt8 a b = true) : lt8 b a = false := by
  cases k : lt8 b a
  · rfl
  · have := lt8_trans h k; rw [lt8_irrefl] at this; cases this
end Go.Proofs.YtpchncpcckfghaaGreat
namespace Go.Proofs.YtpchncpcckfghaaGreat
open Go.RowKit
set_option linter.unusedVariables false
set_option linter.unusedSimpArgs false
def oddN (r : Nat) : Bool := decide (r < 32) || decide (126 < r)
theorem dec_low (s : ByteArray) (i : Nat) (h : (s.get! i).toNat < 128) : Utf8.decode s i = ((s.get! i).toNat, 1) := by
  unfold Utf8.decode
  simp only [Nat.add_zero]
  rw [if_pos h]
theorem dec_high (s : ByteArray) (i : Nat) (h : ¬ (s.get! i).toNat < 128) : 128 ≤ (Utf8.decode s i).1 := by
  unfold Utf8.decode
  simp only [Nat.add_zero]
  rw [if_neg h]
  have e : Utf8.runeError = 65533 := rfl
  split
  · split
    · next hc => exact hc
    · rw [e]; omega
  · split
    · split
      · next hc => simp at hc; omega
      · rw [e]; omega
    · split
      · split
        · next hc => simp at hc; omega
        · rw [e]; omega
      · rw [e]; omega
theorem idx_odd (s : ByteArray) : ∀ (f pos : Nat), s.size ≤ f + pos → (0 ≤ Lib.idxFuncFrom oddN true s f pos ↔ ∃ j, pos ≤ j ∧ j < s.size ∧ oddN (s.get! j).toNat = true)
  | 0, pos, h => by
    unfold Lib.idxFuncFrom
    exact ⟨fun h => by omega, fun ⟨j, h1, h2, _⟩ => by omega⟩
  | f + 1, pos, h => by
    unfold Lib.idxFuncFrom
    by_cases hp : pos < s.size
    · rw [if_pos hp]
      by_cases hb : (s.get! pos).toNat < 128
      · rw [dec_low s pos hb]
        by_cases ho : oddN (s.get! pos).toNat = true
        · rw [if_pos ho]
          exact ⟨fun _ => ⟨pos, Nat.le_refl _, hp, ho⟩, fun _ => by omega⟩
        · rw [if_neg ho, idx_odd s f (pos + 1) (by omega)]
          constructor
          · rintro ⟨j, h1, h2, h3⟩; exact ⟨j, by omega, h2, h3⟩
          · rintro ⟨j, h1, h2, h3⟩
            refine ⟨j, ?_, h2, h3⟩
            rcases Nat.lt_or_ge pos j with h4 | h4
            · exact h4
            · have : j = pos := by omega
              subst this
              exact absurd h3 ho
      · have hd := dec_high s pos hb
        have ho : oddN (Utf8.decode s pos).1 = true := by simp [oddN]; omega
        rw [if_pos ho]
        exact ⟨fun _ => ⟨pos, Nat.le_refl _, hp, by simp [oddN]; omega⟩, fun _ => by omega⟩
    · rw [if_neg hp]
      exact ⟨fun h => by omega, fun ⟨j, h1, h2, _⟩ => by omega⟩
theorem idx_all (s : ByteArray) : decide (0 ≤ Lib.idxFunc oddN true s) = !((byt s).all fun c => decide (32 ≤ c.toNat) && decide (c.toNat ≤ 126)) := by
  have h := idx_odd s s.size 0 (by omega)
  have e : ∀ j, j < s.size → s.get! j = (byt s).getD j 0 := by
    clear h
    intro j hj
    unfold byt
    have h2 : j < s.data.size := hj
    obtain ⟨bs⟩ := s
    show bs[j]! = bs.toList.getD j 0
    rw [getElem!_pos bs j h2]
    simp [List.getD, h2]
  unfold Lib.idxFunc
  rw [Bool.eq_iff_iff, decide_eq_true_eq, h]
  simp only [Bool.not_eq_true', List.all_eq_false]
  constructor
  · rintro ⟨j, _, h2, h3⟩
    refine ⟨s.get! j, ?_, ?_⟩
    · rw [e j h2]
      have h4 : j < (byt s).length := h2
      simp [List.getD, h4]
    · unfold oddN at h3
      simp at h3 ⊢
      omega
  · rintro ⟨c, hc, h3⟩
    obtain ⟨j, hj, e2⟩ := List.getElem_of_mem hc
    refine ⟨j, Nat.zero_le _, hj, ?_⟩
    rw [e j hj]
    have e3 : (byt s).getD j 0 = c := by rw [← e2]; simp [List.getD, hj]
    rw [e3]
    unfold oddN
    simp at h3 ⊢
    omega
end Go.Proofs.YtpchncpcckfghaaGreat
namespace Go.Proofs.YtpchncpcckfghaaGreat
open Go.RowKit
set_option linter.unusedVariables false
theorem run_append_none {P : Program} (w : World) (base : Nat) (t ty e : TypeId) (i : TypeInfo) (size : Nat) (ht : P.underlying t = some (.slice e)) (hi : P.info? e = some i)
    (v : Value) (n : Nat) (xs : List Value) (hown : w.ownsRow base e size v n xs) (c : Nat) : (Builtin.append_ #[t, t] ty #[v, .slice none 0 c]).run P w = .ok v w := by
  rcases hown.2 with ⟨rfl, rfl⟩ | ⟨g, cap, cur, rfl, _, _, hnc, _⟩
  · simp [Builtin.append_, run_underlying ht, sizeOf, typeInfo, hi, Builtin.lenOf, Builtin.firstCells]
  · simp [Builtin.append_, run_underlying ht, sizeOf, typeInfo, hi, Builtin.lenOf, Builtin.firstCells, hnc, storeCells]
end Go.Proofs.YtpchncpcckfghaaGreat
namespace Go.Proofs.YtpchncpcckfghaaGreat
open Go.RowKit
set_option linter.unusedVariables false
structure BelowE (X : List Nat) (B : Nat) (w w' : World) : Prop where
  os : w'.os = w.os
  tape : w'.tape = w.tape
  output : w'.output = w.output
  size : w.heap.size ≤ w'.heap.size
  block : ∀ k, k < B → k ∉ X → w'.heap[k]? = w.heap[k]?
theorem BelowE.refl (X : List Nat) (B : Nat) (w : World) : BelowE X B w w := ⟨rfl, rfl, rfl, Nat.le_refl _, fun _ _ _ => rfl⟩
theorem BelowE.of {X : List Nat} {B : Nat} {w w' : World} (h : Below B w w') : BelowE X B w w' := ⟨h.os, h.tape, h.output, h.size, fun k hk _ => h.block k hk⟩
theorem BelowE.none {B : Nat} {w w' : World} (h : BelowE [] B w w') : Below B w w' := ⟨h.os, h.tape, h.output, h.size, fun k hk => h.block k hk (by simp)⟩
theorem BelowE.trans {X : List Nat} {B : Nat} {a b c : World} (h : BelowE X B a b) (k : BelowE X B b c) : BelowE X B a c :=
  ⟨k.os.trans h.os, k.tape.trans h.tape, k.output.trans h.output, Nat.le_trans h.size k.size, fun i hi hx => (k.block i hi hx).trans (h.block i hi hx)⟩
theorem BelowE.mono {X : List Nat} {B B' : Nat} {w w' : World} (h : BelowE X B w w') (hB : B' ≤ B) : BelowE X B' w w' :=
  ⟨h.os, h.tape, h.output, h.size, fun k hk hx => h.block k (Nat.lt_of_lt_of_le hk hB) hx⟩
theorem BelowE.wider {X Y : List Nat} {B : Nat} {w w' : World} (h : BelowE X B w w') (hXY : ∀ x ∈ X, x ∈ Y) : BelowE Y B w w' :=
  ⟨h.os, h.tape, h.output, h.size, fun k hk hx => h.block k hk fun hm => hx (hXY k hm)⟩
theorem BelowE.less {X Y : List Nat} {B : Nat} {w w' : World} (h : BelowE X B w w') (hX : ∀ x ∈ X, x < B → x ∈ Y) : BelowE Y B w w' :=
  ⟨h.os, h.tape, h.output, h.size, fun k hk hx => h.block k hk fun hm => hx (hX k hm hk)⟩
theorem BelowE.drew {X : List Nat} {B : Nat} {a w : World} (h : BelowE X B a w) : BelowE X B a w.drew := ⟨h.os, h.tape, h.output, h.size, h.block⟩
theorem BelowE.drewN {X : List Nat} {B : Nat} {a w : World} (h : BelowE X B a w) (n : Nat) : BelowE X B a (w.drewN n) := ⟨h.os, h.tape, h.output, h.size, h.block⟩
theorem BelowE.alloc {X : List Nat} {B : Nat} {a w : World} (h : BelowE X B a w) (hB : B ≤ w.heap.size) (o : Obj) : BelowE X B a (w.alloc o) :=
  h.trans (.of ((Below.refl B w).alloc hB o))
theorem BelowE.setNew {X : List Nat} {B : Nat} {a w : World} (h : BelowE X B a w) {p : Addr} (hp : B ≤ p.block) (u : Value) : BelowE X B a (w.setCell p u) :=
  h.trans (.of ((Below.refl B w).setCell hp u))
theorem BelowE.setIn {X : List Nat} {B : Nat} {a w : World} (h : BelowE X B a w) {p : Addr} (hp : p.block ∈ X) (u : Value) : BelowE X B a (w.setCell p u) :=
  h.trans ⟨rfl, rfl, rfl, by simp [World.setCell], fun k _ hx => Below.heap_setCell _ _ _ _ (fun e => hx (e ▸ hp))⟩
theorem BelowE.cell {X : List Nat} {B : Nat} {w w' : World} (h : BelowE X B w w') {p : Addr} (hp : p.block < B) (hx : p.block ∉ X) : w'.cell? p = w.cell? p := World.cell?_of_block (w := w) (h.block p.block hp hx)
def Holds (w : World) (g : Nat) (t : TypeId) (cs : Array Value) : Prop := w.heap[g]? = some (.cells cs t (0, 0))
theorem Holds.lt {w : World} {g : Nat} {t : TypeId} {cs : Array Value} (h : Holds w g t cs) : g < w.heap.size := (Array.getElem?_eq_some_iff.1 h).1
theorem Holds.cell {w : World} {g : Nat} {t : TypeId} {cs : Array Value} (h : Holds w g t cs) (i : Nat) : w.cell? ⟨g, i, none⟩ = cs[i]? := cell_of_row w g i cs t (0, 0) h
theorem Holds.free {w : World} {g : Nat} {t : TypeId} {cs : Array Value} (h : Holds w g t cs) (i : Nat) : w.frozen? ⟨g, i, none⟩ = false := by
  unfold Holds at h; simp [World.frozen?, h]
theorem Holds.new (w : World) (t : TypeId) (cs : Array Value) : Holds (w.alloc (.cells cs t)) w.heap.size t cs := heap_alloc_new w _
theorem Holds.drew {w : World} {g : Nat} {t : TypeId} {cs : Array Value} (h : Holds w g t cs) : Holds w.drew g t cs := h
theorem Holds.drewN {w : World} {g : Nat} {t : TypeId} {cs : Array Value} (h : Holds w g t cs) (n : Nat) : Holds (w.drewN n) g t cs := h
theorem Holds.alloc {w : World} {g : Nat} {t : TypeId} {cs : Array Value} (h : Holds w g t cs) (o : Obj) : Holds (w.alloc o) g t cs := (Below.heap_alloc w o g h.lt).trans h
theorem Holds.set {w : World} {g : Nat} {t : TypeId} {cs : Array Value} (h : Holds w g t cs) (i : Nat) (u : Value) : Holds (w.setCell ⟨g, i, none⟩ u) g t (cs.setIfInBounds i u) := by
  unfold Holds at h ⊢; simp [World.setCell, Array.getElem?_modify, h]
theorem Holds.below {w w' : World} {B g : Nat} {t : TypeId} {cs : Array Value} (h : Holds w g t cs) (hb : Below B w w') (hg : g < B) : Holds w' g t cs := (hb.block g hg).trans h
theorem Holds.belowE {w w' : World} {X : List Nat} {B g : Nat} {t : TypeId} {cs : Array Value} (h : Holds w g t cs) (hb : BelowE X B w w') (hg : g < B) (hx : g ∉ X) : Holds w' g t cs := (hb.block g hg hx).trans h
def SeesE (X : List Nat) (k : IntKind) (B : Nat) (w : World) (a : Option Addr) (l : List Int) : Prop :=
  l = [] ∨ ∃ b off, a = some ⟨b, off, none⟩ ∧ b < B ∧ b ∉ X ∧ ∀ i, i < l.length → w.cell? ⟨b, off + i, none⟩ = some (.int k (l.getD i 0))
theorem SeesE.sees {X k B w a l} (h : SeesE X k B w a l) : Sees k B w a l := by
  rcases h with h | ⟨b, off, h1, h2, _, h3⟩
  · exact .inl h
  · exact .inr ⟨b, off, h1, h2, h3⟩
theorem Sees.out {X k B w a l} (h : Sees k B w a l) (hx : ∀ x ∈ X, B ≤ x) : SeesE X k B w a l := by
  rcases h with h | ⟨b, off, h1, h2, h3⟩
  · exact .inl h
  · exact .inr ⟨b, off, h1, h2, fun hm => by have := hx b hm; omega, h3⟩
theorem SeesE.belowE {X k B w w' a l} (h : SeesE X k B w a l) (hb : BelowE X B w w') : SeesE X k B w' a l := by
  rcases h with h | ⟨b, off, rfl, hB, hx, hc⟩
  · exact .inl h
  · exact .inr ⟨b, off, rfl, hB, hx, fun i hi => (hb.cell (p := ⟨b, off + i, none⟩) hB hx).trans (hc i hi)⟩
theorem SeesE.mono {X k B B' w a l} (h : SeesE X k B w a l) (hb : B ≤ B') : SeesE X k B' w a l := by
  rcases h with h | ⟨b, off, rfl, hB, hx⟩
  · exact .inl h
  · exact .inr ⟨b, off, rfl, by omega, hx⟩
theorem Sees.drewN {k B w a l} (h : Sees k B w a l) (n : Nat) : Sees k B (w.drewN n) a l := h
theorem SeesE.drewN {X k B w a l} (h : SeesE X k B w a l) (n : Nat) : SeesE X k B (w.drewN n) a l := h
theorem BelowE.fromDrew {X : List Nat} {B : Nat} {w w' : World} (h : BelowE X B w.drew w') : BelowE X B w w' := ⟨h.os, h.tape, h.output, h.size, h.block⟩
theorem Below.fromDrew {B : Nat} {w w' : World} (h : Below B w.drew w') : Below B w w' := ⟨h.os, h.tape, h.output, h.size, h.block⟩
theorem Below.drewN {B : Nat} {a w : World} (h : Below B a w) (n : Nat) : Below B a (w.drewN n) := ⟨h.os, h.tape, h.output, h.size, h.block⟩
theorem quiet_mine {P : Program} {f : FuncId} {args : Array Value} {w : World} {n : Nat} {v : Value}
    (h : Calls P f args (w.drewN n) fun e w' => e = .returned v ∧ w.drewN n = w') : Calls P f args (w.drewN n) fun e w'' => e = .returned v ∧ ∃ m, w'' = w.drewN m :=
  h.mono fun _ _ ⟨he, hm⟩ => ⟨he, n, hm.symm⟩
theorem SeesE.cut {X : List Nat} {k : IntKind} {B : Nat} {w : World} {a : Option Addr} {l : List Int} (h : SeesE X k B w a l) (lo hi cap : Nat) (hl : hi ≤ l.length) (hlo : lo ≤ hi) (hc : l.length ≤ cap) :
    ∃ a', sliced a lo hi cap 1 = .slice a' (hi - lo) (cap - lo) ∧ SeesE X k B w a' ((l.take hi).drop lo) := by
  unfold sliced
  refine ⟨_, rfl, ?_⟩
  by_cases h0 : lo = hi
  · left; subst h0; exact List.drop_of_length_le (by simp; omega)
  rcases h with rfl | ⟨b, off, rfl, hB, hX, hcell⟩
  · simp at hl; omega
  · right
    have h1 : ¬ (cap = lo) := by omega
    by_cases hz : lo = 0
    · subst hz
      refine ⟨b, off, by simp [Addr.add], hB, hX, fun i hi' => ?_⟩
      simp at hi'
      rw [hcell i (by omega)]
      have : i < hi := by omega
      simp [List.getD, this]
    · refine ⟨b, off + lo, by simp [Addr.add, h1, hz], hB, hX, fun i hi' => ?_⟩
      simp at hi'
      rw [Nat.add_assoc, hcell (lo + i) (by omega)]
      have : lo + i < hi := by omega
      simp [List.getD, this]
theorem Sees.cut {k : IntKind} {B : Nat} {w : World} {a : Option Addr} {l : List Int} (h : Sees k B w a l) (lo hi cap : Nat) (hl : hi ≤ l.length) (hlo : lo ≤ hi) (hc : l.length ≤ cap) :
    ∃ a', sliced a lo hi cap 1 = .slice a' (hi - lo) (cap - lo) ∧ Sees k B w a' ((l.take hi).drop lo) := by
  obtain ⟨a', h1, h2⟩ := (h.out (X := []) (by simp)).cut lo hi cap hl hlo hc
  exact ⟨a', h1, h2.sees⟩
end Go.Proofs.YtpchncpcckfghaaGreat
namespace Go.Proofs.YtpchncpcckfghaaGreat
open Go.RowKit
set_option linter.unusedVariables false
def codes (s : ByteArray) : List Int := s.data.toList.map fun b => (b.toNat : Int)
theorem codes_length (s : ByteArray) : (codes s).length = s.size := by
  unfold codes; rw [List.length_map, Array.length_toList]; rfl
theorem codes_bs (s : ByteArray) : Bs (codes s) := by
  intro x hx
  obtain ⟨b, _, rfl⟩ := List.mem_map.1 hx
  have := b.toNat_lt
  omega
theorem codes_at (s : ByteArray) (k : Nat) (h : k < s.size) : (codes s).getD k 0 = ((s[k]'h).toNat : Int) := by
  have h2 : k < s.data.toList.length := by rw [Array.length_toList]; exact h
  simp only [codes, List.getD, List.getElem?_map, List.getElem?_eq_getElem h2, Option.map_some, Option.getD_some]
  rfl
theorem codes_str {l : List Int} (h : Bs l) : codes (strOfNums l) = l := by
  unfold codes
  rw [strOfNums_data, List.map_map]
  conv => rhs; rw [← List.map_id l]
  apply List.map_congr_left
  intro x hx
  have := h x hx
  simp only [Function.comp, UInt8.toNat_ofNat', id]
  omega
end Go.Proofs.YtpchncpcckfghaaGreat
namespace Go.Proofs.YtpchncpcckfghaaGreat
open Go.RowKit
set_option linter.unusedVariables false
theorem BelowE.grown {X : List Nat} {B : Nat} {a w w' : World} {row : Option Nat} (h : BelowE X B a w) (hg : w.grownBy w' row) (hB : B ≤ w.heap.size) (hr : ∀ k, row = some k → k < B → k ∈ X) : BelowE X B a w' :=
  h.trans ⟨hg.os, hg.tape, hg.output, hg.size, fun k hk hx => hg.block k (by omega) (fun e => hx (hr k e.symm hk))⟩
theorem run_append_foot {P : Program} (w : World) (t ty e : TypeId) (i : TypeInfo) (z : Value) (bytes : Nat) (ht : P.underlying t = some (.slice e)) (hi : P.info? e = some i) (hz : i.zero = some z)
    (hsize : i.size = 1) (hby : i.bytes = bytes) (hzs : z.cells.size = 1) (k : IntKind)
    (v : Value) (l : List Int) (hown : w.ownsRow 0 e 1 v l.length (nums k l))
    (B : Nat) (A : Option Addr) (r : List Int) (hs : Sees k B w A r) (m c : Nat) (hm : m = r.length)
    (hn : l.length + r.length ≤ maxLen) (hby2 : (l.length + r.length) * bytes ≤ 140737488355328) :
    ∃ v' w', (Builtin.append_ #[t, t] ty #[v, .slice A m c]).run P w = .ok v' w' ∧ w'.ownsRow 0 e 1 v' (l ++ r).length (nums k (l ++ r)) ∧ w.grownBy w' v.ownBlock ∧ (v'.ownBlock = v.ownBlock ∨ v'.ownBlock = some w.heap.size) := by
  subst hm
  have hlen : (nums k r).length = r.length * 1 := by simp [nums]
  have hall : ∀ u ∈ nums k r, u.oneCell' = true := by
    intro u hu
    obtain ⟨x, _, rfl⟩ := List.mem_map.1 hu
    rfl
  have e1 : nums k (l ++ r) = nums k l ++ nums k r := by simp [nums]
  have go : ∀ ad : Addr, A = some ad → (∀ j u, (nums k r)[j]? = some u → w.cell? (ad.add j) = some u) →
      ∃ v' w', (Builtin.append_ #[t, t] ty #[v, .slice A r.length c]).run P w = .ok v' w' ∧ w'.ownsRow 0 e 1 v' (l ++ r).length (nums k (l ++ r)) ∧ w.grownBy w' v.ownBlock ∧ (v'.ownBlock = v.ownBlock ∨ v'.ownBlock = some w.heap.size) := by
    intro ad hA hc
    subst hA
    obtain ⟨v', w', hrun, h2, h3, _, h5⟩ := run_append_own_at (P := P) w 0 t ty e i z 1 bytes ht hi hz hsize hby hzs (by omega) v l.length (nums k l) hown ad r.length c (nums k r) hlen hc hall hn hby2 (Nat.zero_le _)
    refine ⟨v', w', hrun, ?_, h3, h5⟩
    rw [List.length_append, e1]; exact h2
  rcases hs with rfl | ⟨b, off, rfl, _, hc⟩
  · cases A with
    | none => exact ⟨v, w, run_append_none w _ t ty e i 1 ht hi v _ _ hown c, by simpa using hown, World.grownBy.refl w _, .inl rfl⟩
    | some ad => exact go ad rfl (by simp [nums])
  · refine go _ rfl fun j u hj => ?_
    have hjr : j < r.length := by
      have := (List.getElem?_eq_some_iff.1 hj).1
      simpa [nums] using this
    have h2 : (⟨b, off, none⟩ : Addr).add j = ⟨b, off + j, none⟩ := by unfold Addr.add; split <;> simp_all
    rw [h2, hc j hjr]
    simp [nums, hjr] at hj
    simp [List.getD, hjr, hj]
theorem wp_append_foot {P : Program} (w : World) {o : Oper} {a : Act} {K : Act → World → Prop} {Q : Exit → Act → World → Prop}
    (s x : Operand) (t : TypeId) (hop : o.op = Op.call { callee := Callee.builtin Builtin.append, args := #[s, x], argTypes := #[t, t] })
    (e : TypeId) (i : TypeInfo) (z : Value) (bytes : Nat) (ht : P.underlying t = some (.slice e)) (hi : P.info? e = some i) (hz : i.zero = some z)
    (hsize : i.size = 1) (hby : i.bytes = bytes) (hzs : z.cells.size = 1) (k : IntKind)
    (v : Value) (l : List Int) (hown : w.ownsRow 0 e 1 v l.length (nums k l))
    (B : Nat) (A : Option Addr) (r : List Int) (hs : Sees k B w A r) (m c : Nat) (hm : m = r.length)
    (hsv : a.eval s = v) (hx : a.eval x = .slice A m c) (hn : l.length + r.length ≤ maxLen) (hby2 : (l.length + r.length) * bytes ≤ 140737488355328)
    (hK : ∀ v' w', w'.ownsRow 0 e 1 v' (l ++ r).length (nums k (l ++ r)) → w.grownBy w' v.ownBlock → (v'.ownBlock = v.ownBlock ∨ v'.ownBlock = some w.heap.size) → K (a.put o.dst v') w') :
    o.wp P a w K Q := by
  obtain ⟨v', w', hrun, h1, h2, h3⟩ := run_append_foot (P := P) w t o.type e i z bytes ht hi hz hsize hby hzs k v l hown B A r hs m c hm hn hby2
  unfold Oper.wp
  simp [execOp, hop, resolve, invoke, builtin, hsv, hx, hrun, Result.andThen]
  exact hK v' w' h1 h2 h3
theorem wpList_append_foot {P : Program} (w : World) {ops : Array Oper} {rest : List Oper} {o : Oper} {a : Act} {Q : Exit → Act → World → Prop}
    (hg : o.guard = none) (s x : Operand) (t : TypeId) (hop : o.op = Op.call { callee := Callee.builtin Builtin.append, args := #[s, x], argTypes := #[t, t] })
    (e : TypeId) (i : TypeInfo) (z : Value) (bytes : Nat) (ht : P.underlying t = some (.slice e)) (hi : P.info? e = some i) (hz : i.zero = some z)
    (hsize : i.size = 1) (hby : i.bytes = bytes) (hzs : z.cells.size = 1) (k : IntKind)
    (v : Value) (l : List Int) (hown : w.ownsRow 0 e 1 v l.length (nums k l))
    (B : Nat) (A : Option Addr) (r : List Int) (hs : Sees k B w A r) (m c : Nat) (hm : m = r.length)
    (hsv : a.eval s = v) (hx : a.eval x = .slice A m c) (hn : l.length + r.length ≤ maxLen) (hby2 : (l.length + r.length) * bytes ≤ 140737488355328)
    (hK : ∀ v' w', w'.ownsRow 0 e 1 v' (l ++ r).length (nums k (l ++ r)) → w.grownBy w' v.ownBlock → (v'.ownBlock = v.ownBlock ∨ v'.ownBlock = some w.heap.size) → wpList P ops Q rest (a.put o.dst v') w') :
    wpList P ops Q (o :: rest) a w := by
  obtain ⟨v', w', hrun, h1, h2, h3⟩ := run_append_foot (P := P) w t o.type e i z bytes ht hi hz hsize hby hzs k v l hown B A r hs m c hm hn hby2
  refine wpList_plain hg fun K hK' => ?_
  unfold Oper.wp
  simp [execOp, hop, resolve, invoke, builtin, hsv, hx, hrun, Result.andThen]
  exact hK' _ _ (hK v' w' h1 h2 h3)
theorem own_from {w : World} {base B : Nat} {e : TypeId} {size n : Nat} {v : Value} {xs : List Value} (h : w.ownsRow base e size v n xs) (hB : ∀ k, v.ownBlock = some k → B ≤ k) : w.ownsRow B e size v n xs := by
  refine ⟨h.1, ?_⟩
  rcases h.2 with h | ⟨g, cap, cur, hv, hg, r⟩
  · exact .inl h
  · exact .inr ⟨g, cap, cur, hv, hB g (by rw [hv]; rfl), r⟩
theorem own_zero {w : World} {base : Nat} {e : TypeId} {size n : Nat} {v : Value} {xs : List Value} (h : w.ownsRow base e size v n xs) : w.ownsRow 0 e size v n xs := own_from h fun _ _ => Nat.zero_le _
theorem own_belowE {w w' : World} {X : List Nat} {base : Nat} {e : TypeId} {size n : Nat} {v : Value} {xs : List Value} (h : w.ownsRow base e size v n xs) (hb : BelowE X w.heap.size w w') (hx : ∀ k, v.ownBlock = some k → k ∉ X) : w'.ownsRow base e size v n xs := by
  refine ⟨h.1, ?_⟩
  rcases h.2 with h | ⟨g, cap, cur, hv, hg, hh, r⟩
  · exact .inl h
  · exact .inr ⟨g, cap, cur, hv, hg, (hb.block g (Array.getElem?_eq_some_iff.1 hh).1 (hx g (by rw [hv]; rfl))).trans hh, r⟩
theorem own_below {w w' : World} {base : Nat} {e : TypeId} {size n : Nat} {v : Value} {xs : List Value} (h : w.ownsRow base e size v n xs) (hb : Below w.heap.size w w') : w'.ownsRow base e size v n xs :=
  own_belowE h (.of hb) (X := []) (by simp)
theorem run_bytes_sees {P : Program} (w : World) (src dst e : TypeId) (s : ByteArray) (hs : P.underlying src = some .string) (hd : P.underlying dst = some (.slice e)) (he : P.underlying e = some (.int .u8)) :
    ∃ c w', (convert src dst (.string s)).run P w = .ok (.slice (some ⟨w.heap.size, 0, none⟩) s.size c) w' ∧ s.size ≤ c ∧ Sees .u8 w'.heap.size w' (some ⟨w.heap.size, 0, none⟩) (codes s) ∧ Below w.heap.size w w' ∧ w'.heap.size = w.heap.size + 1 := by
  refine ⟨_, _, Lib.run_convert_string_bytes w src dst e s hs hd he, grownCap_ge _ _ _ _, ?_, ?_, Lib.bytesWorld_size w e s⟩
  · refine .inr ⟨w.heap.size, 0, rfl, by rw [Lib.bytesWorld_size]; omega, fun j hj => ?_⟩
    rw [codes_length] at hj
    rw [Nat.zero_add, Lib.bytesWorld_cell w e s j hj, codes_at s j hj]
    simp [List.getD, hj]
    rfl
  · exact ⟨rfl, rfl, rfl, by rw [Lib.bytesWorld_size]; omega, fun k hk => Lib.bytesWorld_at_old w e s k hk⟩
end Go.Proofs.YtpchncpcckfghaaGreat
namespace Go.Proofs.YtpchncpcckfghaaGreat
open Go.RowKit
set_option linter.unusedVariables false
theorem box_below (w : World) (v1 : Array Value) (t1 : TypeId) : Below w.heap.size w (w.alloc (.cells v1 t1)) := (Below.refl _ _).alloc (Nat.le_refl _) _
theorem box2_below (w : World) (v1 v2 : Array Value) (t1 t2 : TypeId) : Below w.heap.size w ((w.alloc (.cells v1 t1)).alloc (.cells v2 t2)) := ((Below.refl _ _).alloc (Nat.le_refl _) _).alloc (by simp) _
structure SL (w : World) (a : Option Addr) (m c : Nat) (l : List Int) : Prop where
  len : m = l.length
  cap : m ≤ c
  max : m ≤ 9223372036854775807
  sees : Sees .i64 w.heap.size w a l
theorem SL.below {w w' : World} {a : Option Addr} {m c : Nat} {l : List Int} (h : SL w a m c l) (hb : Below w.heap.size w w') : SL w' a m c l := ⟨h.len, h.cap, h.max, (h.sees.below hb).mono hb.size⟩
theorem SL.drewN {w : World} {a : Option Addr} {m c : Nat} {l : List Int} (h : SL w a m c l) (n : Nat) : SL (w.drewN n) a m c l := ⟨h.len, h.cap, h.max, h.sees⟩
theorem SL.nil (w : World) : SL w none 0 0 [] := ⟨rfl, Nat.le_refl _, by omega, .inl rfl⟩
def Tells (v : Value) (w : World) (e : Ending) (w' : World) : Prop := e = .returned v ∧ w = w'
theorem sees_num {k : IntKind} {B : Nat} {w : World} {a : Option Addr} {l : List Int} (h : Sees k B w a l) {i : Nat} (hi : i < l.length) : ∃ b off, a = some ⟨b, off, none⟩ ∧ b < B ∧ w.cell? ⟨b, off + i, none⟩ = some (.int k (l.getD i 0)) := by
  rcases h with rfl | ⟨b, off, rfl, hB, hc⟩
  · cases hi
  · exact ⟨b, off, rfl, hB, hc i hi⟩
end Go.Proofs.YtpchncpcckfghaaGreat
namespace Go.Proofs
open Go.Shelf
def Tryz.lays169_ren : Go.Shelf.Ren := ⟨fun | 169 => 118 | n => n, fun | 70 => 141 | 9 => 9 | 0 => 0 | 72 => 143 | 37 => 82 | 127 => 163 | 3 => 3 | 5 => 5 | n => n, fun | n => n⟩
theorem Tryz.lays169 : Go.Proofs.Lays.n169 Tryz.prog Tryz.lays169_ren := {
  mixed := by kernel_rfl
  f169 := Tryz.func118.trans (congrArg some (by kernel_rfl))
  t0 := Tryz.underlying0
  a0 := Tryz.isAgg0
  z0 := Tryz.sizeOf0
  v0 := Tryz.zeroValue0
  t3 := Tryz.underlying3
  a3 := Tryz.isAgg3
  z3 := Tryz.sizeOf3
  v3 := Tryz.zeroValue3
  t9 := Tryz.underlying9
  a9 := Tryz.isAgg9
  z9 := Tryz.sizeOf9
  v9 := Tryz.zeroValue9
  t37 := Tryz.underlying82
  a37 := Tryz.isAgg82
  z37 := Tryz.sizeOf82
  v37 := Tryz.zeroValue82
  t70 := Tryz.underlying141
  a70 := Tryz.isAgg141
  z70 := Tryz.sizeOf141
  v70 := Tryz.zeroValue141
  t72 := Tryz.underlying143
  a72 := Tryz.isAgg143
  z72 := Tryz.sizeOf143
  v72 := Tryz.zeroValue143
  t127 := Tryz.underlying163
  a127 := Tryz.isAgg163
  z127 := Tryz.sizeOf163
  v127 := Tryz.zeroValue163 }
theorem Tryz.Builder_Extra_169 : Builder.Extra Tryz.prog Tryz.lays169_ren := {
  sizeBuilder := by kernel_rfl
  liesBuilder := by kernel_rfl
  t5 := Tryz.underlying5
  a5 := Tryz.isAgg5
  z5 := Tryz.sizeOf5
  v5 := Tryz.zeroValue5
  infoByte := by kernel_rfl
  cellsByte := by kernel_rfl
  sizeByte := by kernel_rfl
  neB5 := by decide }
def Tryz.lays125_ren : Go.Shelf.Ren := ⟨fun | 125 => 63 | 128 => 89 | 129 => 90 | n => n, fun | 46 => 90 | 3 => 3 | 51 => 117 | 53 => 36 | 4 => 4 | 5 => 5 | 9 => 9 | n => n, fun | n => n⟩
theorem Tryz.lays125 : Go.Proofs.Lays.n125 Tryz.prog Tryz.lays125_ren := {
  mixed := by kernel_rfl
  f125 := Tryz.func63.trans (congrArg some (by kernel_rfl))
  f128 := Tryz.func89.trans (congrArg some (by kernel_rfl))
  f129 := Tryz.func90.trans (congrArg some (by kernel_rfl))
  t3 := Tryz.underlying3
  a3 := Tryz.isAgg3
  z3 := Tryz.sizeOf3
  v3 := Tryz.zeroValue3
  t4 := Tryz.underlying4
  a4 := Tryz.isAgg4
  z4 := Tryz.sizeOf4
  v4 := Tryz.zeroValue4
  t5 := Tryz.underlying5
  a5 := Tryz.isAgg5
  z5 := Tryz.sizeOf5
  v5 := Tryz.zeroValue5
  t9 := Tryz.underlying9
  a9 := Tryz.isAgg9
  z9 := Tryz.sizeOf9
  v9 := Tryz.zeroValue9
  t46 := Tryz.underlying90
  a46 := Tryz.isAgg90
  z46 := Tryz.sizeOf90
  v46 := Tryz.zeroValue90
  t51 := Tryz.underlying117
  a51 := Tryz.isAgg117
  z51 := Tryz.sizeOf117
  v51 := Tryz.zeroValue117
  t53 := Tryz.underlying36
  a53 := Tryz.isAgg36
  z53 := Tryz.sizeOf36
  v53 := Tryz.zeroValue36 }
theorem Tryz.bits_Len (x : Int) (w : World) (h0 : 0 ≤ x) (h1 : x ≤ 18446744073709551615) :
    Calls Tryz.prog 63 #[.int .u64 x] w fun e w' => e = .returned (.int .i64 (Lib.bitLen x.toNat)) ∧ w' = w := Any.bits_Len Tryz.lays125 x w h0 h1
open Go.RowKit in
theorem Tryz.Builder_String_any_k (B b : Nat) (l : List UInt8) (w : World) (h : Lib.IsBuilderF 143 5 B b (Lib.byteCells l) w) (hBw : B ≤ w.heap.size) :
    Calls Tryz.prog 118 #[.pointer (some ⟨b, 0, none⟩)] w fun e w' => e = .returned (.string ⟨l.toArray⟩) ∧ (Lib.IsBuilderF 143 5 B b (Lib.byteCells l) w' ∧ Below B w w' ∧ Lib.OthersKept 5 (some b) w w') := Any.Builder_String_any_k Tryz.lays169 Tryz.Builder_Extra_169 B b l w h hBw
def Tryz.laysGw17_ren : Go.Shelf.Ren := ⟨fun | 17 => 73 | 15 => 102 | 20 => 120 | n => n, fun | 9 => 9 | 23 => 101 | 4 => 4 | 3 => 3 | 0 => 0 | 21 => 21 | n => n, fun | n => n⟩
theorem Tryz.laysGw17 : Go.Proofs.LaysGw.n17 Tryz.prog Tryz.laysGw17_ren := {
  mixed := by kernel_rfl
  f15 := Tryz.func102.trans (congrArg some (by kernel_rfl))
  f17 := Tryz.func73.trans (congrArg some (by kernel_rfl))
  f20 := Tryz.func120.trans (congrArg some (by kernel_rfl))
  t0 := Tryz.underlying0
  a0 := Tryz.isAgg0
  z0 := Tryz.sizeOf0
  v0 := Tryz.zeroValue0
  i0 := by kernel_rfl
  t3 := Tryz.underlying3
  a3 := Tryz.isAgg3
  z3 := Tryz.sizeOf3
  v3 := Tryz.zeroValue3
  i3 := by kernel_rfl
  t4 := Tryz.underlying4
  a4 := Tryz.isAgg4
  z4 := Tryz.sizeOf4
  v4 := Tryz.zeroValue4
  i4 := by kernel_rfl
  t9 := Tryz.underlying9
  a9 := Tryz.isAgg9
  z9 := Tryz.sizeOf9
  v9 := Tryz.zeroValue9
  i9 := by kernel_rfl
  t21 := Tryz.underlying21
  a21 := Tryz.isAgg21
  z21 := Tryz.sizeOf21
  v21 := Tryz.zeroValue21
  i21 := by kernel_rfl
  t23 := Tryz.underlying101
  a23 := Tryz.isAgg101
  z23 := Tryz.sizeOf101
  v23 := Tryz.zeroValue101
  i23 := by kernel_rfl }
open Go.RowKit Go.Lib in
theorem Tryz.strings_ContainsFunc_grows (g : Nat) (lb : Array Value) (eg : ∀ args w, (callFunc g args).run Tryz.prog w = .ok (.enter g args) w) (p : Nat → Bool) (s : ByteArray) (w : World) (hp : PredGrows Tryz.prog g lb p w) :
    Calls Tryz.prog 73 #[.string s, .func (.func g) #[] lb] w fun e w' => e = .returned (.bool (decide (0 ≤ Lib.idxFunc p true s))) ∧ Below w.heap.size w w' := Any.strings_ContainsFunc_grows Tryz.laysGw17 g lb eg p s w hp
end Go.Proofs
namespace Go.Proofs.YtpchncpcckfghaaGreat
open Go.RowKit
set_option linter.unusedVariables false
set_option linter.unusedSimpArgs false
def xprB (s : ByteArray) : Bool := decide (1 ≤ s.size) && (decide (s.size ≤ 128) && (byt s).all fun c => decide (32 ≤ c.toNat) && decide (c.toNat ≤ 126))
def noteB (s : ByteArray) : Bool := decide (s.size ≤ 64) && (byt s).all fun c => decide (32 ≤ c.toNat) && decide (c.toNat ≤ 126)
theorem noteB_nil {s : ByteArray} (h : s.size = 0) : noteB s = true := by
  have hs : s = ⟨#[]⟩ := by
    obtain ⟨⟨l⟩⟩ := s
    have h1 : l.length = 0 := h
    rw [List.length_eq_zero_iff.1 h1]
  subst hs
  rfl
theorem noteB_expr {s : ByteArray} (h : ¬ s.size = 0) (h2 : s.size ≤ 64) : noteB s = xprB s := by
  unfold noteB xprB
  rw [decide_eq_true h2, decide_eq_true (show 1 ≤ s.size by omega), decide_eq_true (show s.size ≤ 128 by omega)]
  rfl
theorem noteB_big {s : ByteArray} (h : ¬ s.size ≤ 64) : noteB s = false := by
  unfold noteB
  rw [decide_eq_false h]
  rfl
set_option maxRecDepth 100000 in
theorem nodd_any (x : Nat) (w : World) : Calls Tryz.prog 72 #[.int .i32 (x : Int)] w (Tells (.bool (oddN x)) w) := by
  have hR : Hid (oddN x = (decide (x < 32) || decide (126 < x))) := Lib.hid rfl
  generalize oddN x = R at *
  by_cases h1 : x < 32
  · have h1i : (x : Int) < 32 := by omega
    have hF : Hid (R = true) := Lib.hid (by rw [hR.out, decide_eq_true h1]; rfl)
    clear hR
    go_enter Tryz.func72, Tryz.ntmps72
    go_wp2
    go_ret
    exact ⟨ret_bool hF.out.symm, rfl⟩
  have h1i : ¬ (x : Int) < 32 := by omega
  by_cases h2 : 126 < x
  · have h2i : (126 : Int) < (x : Int) := by omega
    have hF : Hid (R = true) := Lib.hid (by rw [hR.out, decide_eq_false h1, decide_eq_true h2]; rfl)
    clear hR
    go_enter Tryz.func72, Tryz.ntmps72
    go_wp2
    go_ret
    exact ⟨ret_bool hF.out.symm, rfl⟩
  have h2i : ¬ (126 : Int) < (x : Int) := by omega
  have hF : Hid (R = false) := Lib.hid (by rw [hR.out, decide_eq_false h1, decide_eq_false h2]; rfl)
  clear hR
  go_enter Tryz.func72, Tryz.ntmps72
  go_wp2
  go_ret
  exact ⟨ret_bool hF.out.symm, rfl⟩
theorem contains_note (s : ByteArray) (w : World) : Calls Tryz.prog 73 #[.string s, .func (.func 72) #[] #[]] w (Gives (.bool (!((byt s).all fun c => decide (32 ≤ c.toNat) && decide (c.toNat ≤ 126)))) w) := by
  have h := Tryz.strings_ContainsFunc_grows 72 #[] (fun args w => by kernel_rfl) oddN s w (fun W x hx hb => (nodd_any x W).mono (fun e w' h => ⟨h.1, by rw [← h.2]; exact Below.refl _ _⟩))
  rw [idx_all s] at h
  exact h
set_option maxRecDepth 100000 in
theorem note_any (s : ByteArray) (w : World) : Calls Tryz.prog 52 #[.string s] w (Gives (.bool (noteB s)) w) := by
  have hR : Hid (noteB s = (decide (s.size ≤ 64) && (byt s).all fun c => decide (32 ≤ c.toNat) && decide (c.toNat ≤ 126))) := Lib.hid rfl
  have q := Lib.hid (contains_note s w)
  generalize ((byt s).all fun c => decide (32 ≤ c.toNat) && decide (c.toNat ≤ 126)) = b at *
  generalize noteB s = R at *
  by_cases h2 : s.size ≤ 64
  · have h2i : (s.size : Int) ≤ 64 := by omega
    have hF : Hid (R = b) := Lib.hid (by rw [hR.out, decide_eq_true h2]; rfl)
    clear hR
    go_enter Tryz.func52, Tryz.ntmps52
    go_wp2_with fail
    refine q.out.mono ?_
    rintro e w1 ⟨rfl, hb1⟩
    go_wp2
    go_ret
    exact ⟨ret_bool (by rw [hF.out]; try (cases b <;> rfl)), hb1⟩
  have h2i : ¬ (s.size : Int) ≤ 64 := by omega
  have hF : Hid (R = false) := Lib.hid (by rw [hR.out, decide_eq_false h2]; rfl)
  clear hR q
  go_enter Tryz.func52, Tryz.ntmps52
  go_wp2
  go_ret
  exact ⟨ret_bool hF.out.symm, Below.refl _ _⟩
theorem ball_no {s : ByteArray} {q : UInt8 → Bool} {k : Nat} (hk : k < s.size) (h : q (s[k]'hk) = false) : (byt s).all q = false := by
  rw [List.all_eq_false]
  refine ⟨s[k]'hk, ?_, by rw [h]; simp⟩
  obtain ⟨⟨l⟩⟩ := s
  exact List.getElem_mem (l := l) hk
theorem ball_yes {s : ByteArray} {q : UInt8 → Bool} (h : ∀ t (ht : t < s.size), q (s[t]'ht) = true) : (byt s).all q = true := by
  rw [List.all_eq_true]
  intro x hx
  obtain ⟨t, ht, rfl⟩ := List.getElem_of_mem hx
  exact h t ht
set_option maxRecDepth 100000 in
set_option maxHeartbeats 1000000 in
theorem brexpr_any (s : ByteArray) (hs : s.size ≤ 9223372036854775806) (w : World) : Calls Tryz.prog 47 #[.string s] w (Tells (.bool (xprB s)) w) := by
  have hR : Hid (xprB s = (decide (1 ≤ s.size) && (decide (s.size ≤ 128) && (byt s).all fun c => decide (32 ≤ c.toNat) && decide (c.toNat ≤ 126)))) := Lib.hid rfl
  have ns := Lib.hid (fun k hk h => ball_no (s := s) (q := fun c => decide (32 ≤ c.toNat) && decide (c.toNat ≤ 126)) (k := k) hk h)
  have ys := Lib.hid (fun h => ball_yes (s := s) (q := fun c => decide (32 ≤ c.toNat) && decide (c.toNat ≤ 126)) h)
  generalize ((byt s).all fun c => decide (32 ≤ c.toNat) && decide (c.toNat ≤ 126)) = b at *
  generalize xprB s = R at *
  go_enter Tryz.func47, Tryz.ntmps47
  go_wp2
  go_loop [3] (fun x => ∃ k : Nat, k ≤ s.size ∧ x = .int .i64 k ∧ Hid (∀ t (ht : t < s.size), t < k → (decide (32 ≤ (s[t]'ht).toNat) && decide ((s[t]'ht).toNat ≤ 126)) = true)) (fun x => s.size - (intOf x).toNat)
  case atStart => exact ⟨0, Nat.zero_le _, rfl, Lib.hid (fun t _ ht => by omega)⟩
  case round =>
    obtain ⟨k, hk, rfl, hal⟩ := hrel
    by_cases hp : k < s.size
    · have hpi : (k : Int) < (s.size : Int) := by omega
      by_cases c1 : (s[k]'hp).toNat < 32
      · have c1i : ((s[k]'hp).toNat : Int) < 32 := by omega
        have hF : Hid (R = false) := Lib.hid (by rw [hR.out, ns.out k hp (by simp; omega)]; simp)
        clear hR ns ys hal
        go_wp2
        go_ret
        exact ⟨ret_bool hF.out.symm, rfl⟩
      have c1i : ¬ ((s[k]'hp).toNat : Int) < 32 := by omega
      by_cases c2 : 126 < (s[k]'hp).toNat
      · have c2i : (126 : Int) < ((s[k]'hp).toNat : Int) := by omega
        have hF : Hid (R = false) := Lib.hid (by rw [hR.out, ns.out k hp (by simp; omega)]; simp)
        clear hR ns ys hal
        go_wp2
        go_ret
        exact ⟨ret_bool hF.out.symm, rfl⟩
      have c2i : ¬ (126 : Int) < ((s[k]'hp).toNat : Int) := by omega
      have hn : Hid (∀ t (ht : t < s.size), t < k + 1 → (decide (32 ≤ (s[t]'ht).toNat) && decide ((s[t]'ht).toNat ≤ 126)) = true) := Lib.hid (fun t ht htk => by
        by_cases e : t = k
        · subst e; simp; omega
        · exact hal.out t ht (by omega))
      clear hal ns ys hR
      go_wp2
      go_round
      case rel => exact ⟨k + 1, by omega, by go_num, hn⟩
      case measure => simp [intOf]; omega
    · have hpi : ¬ (k : Int) < (s.size : Int) := by omega
      have hb : Hid (b = true) := Lib.hid (ys.out (fun t ht => hal.out t ht (by omega)))
      by_cases h0 : 1 ≤ s.size
      · have h0i : (1 : Int) ≤ (s.size : Int) := by omega
        have hF : Hid (R = decide ((s.size : Int) ≤ 128)) := Lib.hid (by rw [hR.out, hb.out, decide_eq_true h0]; simp; omega)
        clear hal ns ys hR hb
        by_cases h2 : (s.size : Int) ≤ 128
        · have hG : Hid (R = true) := Lib.hid (by rw [hF.out]; exact decide_eq_true h2)
          go_wp2
          go_ret
          exact ⟨ret_bool hG.out.symm, rfl⟩
        · have hG : Hid (R = false) := Lib.hid (by rw [hF.out]; exact decide_eq_false h2)
          go_wp2
          go_ret
          exact ⟨ret_bool hG.out.symm, rfl⟩
      · have h0i : ¬ (1 : Int) ≤ (s.size : Int) := by omega
        have hF : Hid (R = false) := Lib.hid (by rw [hR.out, decide_eq_false h0]; rfl)
        clear hal ns ys hR hb
        go_wp2
        go_ret
        exact ⟨ret_bool hF.out.symm, rfl⟩
set_option maxRecDepth 100000 in
theorem rnote_any (s : ByteArray) (hs : s.size ≤ 9223372036854775806) (w : World) : Calls Tryz.prog 24 #[.string s] w (Tells (.bool (noteB s)) w) := by
  by_cases h0 : s.size = 0
  · have h0i : (((s.size : Int)) == 0) = true := by rw [h0]; rfl
    have h0n : (s.size == 0) = true := by rw [h0]; rfl
    have hF : Hid (noteB s = true) := Lib.hid (noteB_nil h0)
    generalize noteB s = R at *
    go_enter Tryz.func24, Tryz.ntmps24
    go_wp2
    go_ret
    exact ⟨ret_bool hF.out.symm, rfl⟩
  have h0i : (((s.size : Int)) == 0) = false := by rw [beq_eq_false_iff_ne]; omega
  have h0n : (s.size == 0) = false := by rw [beq_eq_false_iff_ne]; omega
  by_cases h2 : s.size ≤ 64
  · have h2i : (s.size : Int) ≤ 64 := by omega
    have hF : Hid (noteB s = xprB s) := Lib.hid (noteB_expr h0 h2)
    have q := Lib.hid (brexpr_any s hs w)
    generalize noteB s = R at *
    generalize xprB s = b at *
    clear h0
    go_enter Tryz.func24, Tryz.ntmps24
    go_wp2_with fail
    refine q.out.mono ?_
    rintro e w1 ⟨rfl, rfl⟩
    go_wp2
    go_ret
    exact ⟨ret_bool hF.out.symm, rfl⟩
  have h2i : ¬ (s.size : Int) ≤ 64 := by omega
  have hF : Hid (noteB s = false) := Lib.hid (noteB_big h2)
  generalize noteB s = R at *
  clear h0
  go_enter Tryz.func24, Tryz.ntmps24
  go_wp2
  go_ret
  exact ⟨ret_bool hF.out.symm, rfl⟩
end Go.Proofs.YtpchncpcckfghaaGreat
namespace Go.Proofs.YtpchncpcckfghaaGreat
open Go.RowKit Go.ChangeShapes Go.WideShapes Go.Deep
set_option linter.unusedVariables false
def Reach {H : Type} (P : Program) (t : TypeId) (d : DataW H) : Prop := ∀ n ∈ d.weights P t, n ≤ 140737488351232
theorem reach_each {H : Type} {P : Program} {ts : List TypeId} {ds : List (DataW H)} (h : (DataW.weightsEach P ts ds).all (· ≤ reachBytes) = true) {j : Nat} {t : TypeId} {d : DataW H} (ht : ts[j]? = some t) (hd : ds[j]? = some d) : Reach P t d := by
  intro n hn
  have := List.all_eq_true.1 h n (DataW.weights_mem_each ht hd n hn)
  have h' : n ≤ reachBytes := of_decide_eq_true this
  simpa [reachBytes] using h'
theorem weightsAll_mem {H : Type} {P : Program} {e : TypeId} : ∀ {l : List (DataW H)} {d : DataW H}, d ∈ l → ∀ n ∈ d.weights P e, n ∈ DataW.weightsAll P e l
  | x :: r, d, hd, n, hn => by
    unfold DataW.weightsAll
    rcases List.mem_cons.1 hd with rfl | hd
    · exact List.mem_append_left _ hn
    · exact List.mem_append_right _ (weightsAll_mem hd n hn)
theorem weights_slice {H : Type} {P : Program} {t e : TypeId} {el sp : List (DataW H)} (ht : P.underlying t = some (.slice e)) (h : Reach P t (.slice el sp)) : (el.length + sp.length) * P.bytesOf e ≤ 140737488351232 ∧ ∀ d ∈ el, Reach P e d := by
  unfold Reach at h
  unfold DataW.weights at h
  rw [ht] at h
  refine ⟨h _ (by simp), fun d hd n hn => h n ?_⟩
  exact List.mem_cons_of_mem _ (List.mem_append_left _ (weightsAll_mem hd n hn))
theorem weights_agg {H : Type} {P : Program} {t : TypeId} {fs : Array Field} {ps : List (DataW H)} (ht : P.underlying t = some (.struct fs)) (h : Reach P t (.agg ps)) {j : Nat} {f : Field} {d : DataW H} (hj : fs[j]? = some f) (hd : ps[j]? = some d) : Reach P f.type d := by
  intro n hn
  unfold Reach at h
  unfold DataW.weights at h
  rw [ht] at h
  have h1 : (fs.toList.map (·.type))[j]? = some f.type := by simp [hj]
  exact h n (DataW.weights_mem_each h1 hd n hn)
theorem reach_string {H : Type} {P : Program} {t : TypeId} {s : ByteArray} (h : Reach (H := H) P t (.lit (.string s.data.toList))) : s.size ≤ 140737488351232 := by
  have := h s.data.toList.length (by simp [DataW.weights])
  simpa using this
end Go.Proofs.YtpchncpcckfghaaGreat
namespace Go.Proofs.YtpchncpcckfghaaGreat
open Go.RowKit
set_option linter.unusedVariables false
def SeesC (B : Nat) (w : World) (a : Option Addr) (cs : List Value) : Prop :=
  cs = [] ∨ ∃ b off, a = some ⟨b, off, none⟩ ∧ b < B ∧ ∀ i u, cs[i]? = some u → w.cell? ⟨b, off + i, none⟩ = some u
theorem SeesC.below {B : Nat} {w w' : World} {a : Option Addr} {cs : List Value} (h : SeesC B w a cs) (hb : Below B w w') : SeesC B w' a cs := by
  rcases h with h | ⟨b, off, rfl, hB, hc⟩
  · exact .inl h
  · exact .inr ⟨b, off, rfl, hB, fun i u hu => (hb.cell (p := ⟨b, off + i, none⟩) hB).trans (hc i u hu)⟩
theorem SeesC.mono {B B' : Nat} {w : World} {a : Option Addr} {cs : List Value} (h : SeesC B w a cs) (hb : B ≤ B') : SeesC B' w a cs := by
  rcases h with h | ⟨b, off, rfl, hB, hc⟩
  · exact .inl h
  · exact .inr ⟨b, off, rfl, by omega, hc⟩
theorem add_at (b off i : Nat) : (⟨b, off, none⟩ : Addr).add i = ⟨b, off + i, none⟩ := by unfold Addr.add; split <;> simp_all
theorem seesC_own {w : World} {base : Nat} {e : TypeId} {size : Nat} {v : Value} {n : Nat} {cs : List Value} (h : w.ownsRow base e size v n cs) :
    ∃ a cap, v = .slice a n cap ∧ n ≤ cap ∧ cap ≤ maxLen ∧ SeesC w.heap.size w a cs := by
  rcases h.2 with ⟨rfl, h0⟩ | ⟨g, cap, cur, rfl, _, hg, hc1, hc2, _⟩
  · subst h0
    have : cs = [] := List.eq_nil_of_length_eq_zero (by have := h.1; omega)
    exact ⟨none, 0, rfl, Nat.le_refl _, by simp, .inl this⟩
  · refine ⟨_, cap, rfl, hc1, hc2, .inr ⟨g, 0, rfl, (Array.getElem?_eq_some_iff.1 hg).1, fun i u hu => ?_⟩⟩
    have := h.cells (g := g) rfl i u hu
    rw [add_at] at this
    exact this
theorem seesC_lit (w : World) (e : TypeId) (cs : Array Value) (fr : Nat × Nat := (0, 0)) : SeesC (w.alloc (.cells cs e fr)).heap.size (w.alloc (.cells cs e fr)) (some ⟨w.heap.size, 0, none⟩) cs.toList := by
  refine .inr ⟨w.heap.size, 0, rfl, by simp, fun i u hu => ?_⟩
  rw [cell_of_row _ _ _ _ _ _ (heap_alloc_new w _)]
  simpa using hu
theorem flat_at {α : Type} {f : α → List Value} {k : Nat} (hk : ∀ x, (f x).length = k) : ∀ (l : List α) (i j : Nat), j < k → (l.flatMap f)[i * k + j]? = (l[i]?).bind fun x => (f x)[j]?
  | [], i, j, _ => by simp
  | x :: l, 0, j, hj => by simp [List.getElem?_append, hk, hj]
  | x :: l, i + 1, j, hj => by
    have ih := flat_at hk l i j hj
    rw [List.flatMap_cons, List.getElem?_append_right (by rw [hk, Nat.succ_mul]; omega), hk, show (i + 1) * k + j - k = i * k + j by rw [Nat.succ_mul]; omega, ih]
    simp
theorem flat_len {α : Type} {f : α → List Value} {k : Nat} (hk : ∀ x, (f x).length = k) : ∀ (l : List α), (l.flatMap f).length = l.length * k
  | [] => by simp
  | x :: l => by rw [List.flatMap_cons, List.length_append, flat_len hk l, hk, List.length_cons, Nat.succ_mul]; omega
theorem run_append_cellsB {P : Program} (w : World) (base : Nat) (t ty e : TypeId) (i : TypeInfo) (z : Value) (size bytes : Nat) (ht : P.underlying t = some (.slice e)) (hi : P.info? e = some i) (hz : i.zero = some z)
    (hsize : i.size = size) (hby : i.bytes = bytes) (hzs : z.cells.size = size) (hsz : 0 < size)
    (v : Value) (n : Nat) (xs : List Value) (hown : w.ownsRow base e size v n xs) (B : Nat) (A : Option Addr) (m c : Nat) (news : List Value) (hl : news.length = m * size) (hs : SeesC B w A news) (h1 : ∀ u ∈ news, u.oneCell' = true)
    (hn : n + m ≤ maxLen) (hby2 : (n + m) * bytes ≤ 140737488355328) (hbase : base ≤ w.heap.size) :
    ∃ v' w', (Builtin.append_ #[t, t] ty #[v, .slice A m c]).run P w = .ok v' w' ∧ w'.ownsRow base e size v' (n + m) (xs ++ news) ∧ w.grownBy w' v.ownBlock ∧ (v'.ownBlock = v.ownBlock ∨ v'.ownBlock = some w.heap.size) := by
  cases A with
  | none =>
    have hnews : news = [] := by
      rcases hs with h | ⟨b, off, h, _⟩
      · exact h
      · cases h
    subst hnews
    have hm : m = 0 := by
      cases m with
      | zero => rfl
      | succ m => rw [Nat.succ_mul] at hl; simp at hl; omega
    subst hm
    exact ⟨v, w, run_append_none w base t ty e i size ht hi v n xs hown c, by simpa using hown, World.grownBy.refl w _, .inl rfl⟩
  | some ad =>
    have hc : ∀ j u, news[j]? = some u → w.cell? (ad.add j) = some u := by
      rcases hs with rfl | ⟨b, off, h, _, hc⟩
      · intro j u hj; simp at hj
      · injection h with h; subst h; intro j u hj; rw [add_at]; exact hc j u hj
    obtain ⟨v', w', hrun, h2, h3, _, h5⟩ := run_append_own_at (P := P) w base t ty e i z size bytes ht hi hz hsize hby hzs hsz v n xs hown ad m c news hl hc h1 hn hby2 hbase
    exact ⟨v', w', hrun, h2, h3, h5⟩
theorem wpList_append_cellsB {P : Program} (w : World) {ops : Array Oper} {rest : List Oper} {o : Oper} {a : Act} {Q : Exit → Act → World → Prop}
    (hg : o.guard = none) (s x : Operand) (t : TypeId) (hop : o.op = Op.call { callee := Callee.builtin Builtin.append, args := #[s, x], argTypes := #[t, t] })
    (w0 : World) (e : TypeId) (i : TypeInfo) (z : Value) (size bytes : Nat) (ht : P.underlying t = some (.slice e)) (hi : P.info? e = some i) (hz : i.zero = some z)
    (hsize : i.size = size) (hby : i.bytes = bytes) (hzs : z.cells.size = size) (hsz : 0 < size)
    (v : Value) (n : Nat) (xs : List Value) (hown : w.ownsRow w0.heap.size e size v n xs) (hb : Below w0.heap.size w0 w) (B : Nat) (A : Option Addr) (m c : Nat) (news : List Value) (hl : news.length = m * size) (hs : SeesC B w A news) (h1 : ∀ u ∈ news, u.oneCell' = true)
    (hsv : a.eval s = v) (hx : a.eval x = .slice A m c) (hn : n + m ≤ maxLen) (hby2 : (n + m) * bytes ≤ 140737488355328)
    (hK : ∀ v' w', w'.ownsRow w0.heap.size e size v' (n + m) (xs ++ news) → Below w0.heap.size w0 w' → wpList P ops Q rest (a.put o.dst v') w') :
    wpList P ops Q (o :: rest) a w := by
  obtain ⟨v', w', hrun, g1, g2, g3⟩ := run_append_cellsB (P := P) w w0.heap.size t o.type e i z size bytes ht hi hz hsize hby hzs hsz v n xs hown B A m c news hl hs h1 hn hby2 hb.size
  refine wpList_plain hg fun K hK' => ?_
  unfold Oper.wp
  simp [execOp, hop, resolve, invoke, builtin, hsv, hx, hrun, Result.andThen]
  exact hK' _ _ (hK v' w' g1 (hb.grown g2 hb.size fun k hk => (hown.lt k hk).1))
theorem own_cells (w : World) (e : TypeId) (size n : Nat) (cs : Array Value) (hn : cs.size = n * size) (hm : n ≤ maxLen) : (w.alloc (.cells cs e)).ownsRow w.heap.size e size (.slice (some ⟨w.heap.size, 0, none⟩) n n) n cs.toList :=
  ⟨by simpa using hn, .inr ⟨w.heap.size, n, cs, rfl, Nat.le_refl _, heap_alloc_new w _, Nat.le_refl _, hm, hn, by rw [List.take_of_length_le (by simp; omega)]⟩⟩
theorem own_nil (w : World) (base : Nat) (e : TypeId) (size : Nat) : w.ownsRow base e size (.slice none 0 0) 0 [] := ⟨by simp, .inl ⟨rfl, rfl⟩⟩
end Go.Proofs.YtpchncpcckfghaaGreat
namespace Go.Proofs.YtpchncpcckfghaaGreat
open Go.RowKit
set_option linter.unusedVariables false
structure RO {α : Type} (f : α → List Value) (w : World) (a : Option Addr) (n c : Nat) (l : List α) : Prop where
  len : n = l.length
  cap : n ≤ c
  max : c ≤ maxLen
  sees : SeesC w.heap.size w a (l.flatMap f)
theorem RO.below {α : Type} {f : α → List Value} {w w' : World} {a : Option Addr} {n c : Nat} {l : List α} (h : RO f w a n c l) (hb : Below w.heap.size w w') : RO f w' a n c l := ⟨h.len, h.cap, h.max, (h.sees.below hb).mono hb.size⟩
theorem RO.drewN {α : Type} {f : α → List Value} {w : World} {a : Option Addr} {n c : Nat} {l : List α} (h : RO f w a n c l) (m : Nat) : RO f (w.drewN m) a n c l := ⟨h.len, h.cap, h.max, h.sees⟩
theorem RO.nil {α : Type} {f : α → List Value} (w : World) : RO f w none 0 0 [] := ⟨rfl, Nat.le_refl _, by simp, .inl rfl⟩
theorem RO.max' {α : Type} {f : α → List Value} {w : World} {a : Option Addr} {n c : Nat} {l : List α} (h : RO f w a n c l) : n ≤ 9223372036854775807 := by
  have h1 := h.cap
  have h2 := h.max
  unfold maxLen at h2
  omega
theorem RO.at_ {α : Type} {f : α → List Value} {k : Nat} (hk : ∀ x, (f x).length = k) (h0 : 0 < k) {w : World} {a : Option Addr} {n c : Nat} {l : List α} (h : RO f w a n c l) (d : α) {i : Nat} (hi : i < n) :
    ∃ b off, a = some ⟨b, off, none⟩ ∧ b < w.heap.size ∧ ∀ j, j < k → w.cell? ⟨b, off + (i * k + j), none⟩ = (f (l.getD i d))[j]? := by
  have hl : i < l.length := by rw [← h.len]; exact hi
  rcases h.sees with e | ⟨b, off, rfl, hB, hc⟩
  · have h1 := congrArg List.length e
    rw [flat_len hk] at h1
    have h2 : 0 < l.length * k := Nat.mul_pos (by omega) h0
    simp at h1
    have : l.length * k = 0 := by simp [h1]
    omega
  · refine ⟨b, off, rfl, hB, fun j hj => ?_⟩
    have h1 : (l.flatMap f)[i * k + j]? = (f (l.getD i d))[j]? := by
      rw [flat_at hk l i j hj]
      simp [List.getD, hl]
    have h2 : j < (f (l.getD i d)).length := by rw [hk]; exact hj
    rw [List.getElem?_eq_getElem h2] at h1 ⊢
    exact hc _ _ h1
end Go.Proofs.YtpchncpcckfghaaGreat
namespace Go.Proofs.YtpchncpcckfghaaGreat
open Go.RowKit Go.ChangeShapes Go.WideShapes Go.Deep
set_option linter.unusedVariables false
def flatT (P : Program) : Nat → TypeId → List TypeId
  | 0, t => [t]
  | n + 1, t => match P.underlying t with
    | some (.struct fs) => fs.toList.flatMap fun f => flatT P n f.type
    | _ => [t]
def flatOK (P : Program) : Nat → TypeId → Bool
  | 0, t => true
  | n + 1, t => match P.underlying t with
    | some (.struct fs) => (List.range fs.size).all fun i => match fs[i]? with
      | some f => flatOK P n f.type && ((f.offset == ((fs.toList.take i).flatMap fun f => flatT P n f.type).length) && (P.cellsOf f.type == (flatT P n f.type).length))
      | none => true
    | _ => true
theorem flat_find {α β : Type} (g : α → List β) : ∀ (L : List α) (j : Nat) (y : β), (L.flatMap g)[j]? = some y → ∃ i x j', L[i]? = some x ∧ (g x)[j']? = some y ∧ j = ((L.take i).flatMap g).length + j'
  | [], j, y, h => by simp at h
  | x :: L, j, y, h => by
    rw [List.flatMap_cons] at h
    rcases Nat.lt_or_ge j (g x).length with hj | hj
    · rw [List.getElem?_append_left hj] at h
      exact ⟨0, x, j, rfl, h, by simp⟩
    · rw [List.getElem?_append_right hj] at h
      obtain ⟨i, x', j', h1, h2, h3⟩ := flat_find g L _ y h
      refine ⟨i + 1, x', j', by simpa using h1, h2, ?_⟩
      rw [List.take_succ_cons, List.flatMap_cons, List.length_append]
      omega
theorem flat_upto {α β : Type} (g : α → List β) (L : List α) {i : Nat} {x : α} (h : L[i]? = some x) : ((L.take i).flatMap g).length + (g x).length ≤ (L.flatMap g).length := by
  have e : L = L.take i ++ x :: L.drop (i + 1) := by
    have hl : i < L.length := (List.getElem?_eq_some_iff.1 h).1
    have hx : L[i] = x := (List.getElem?_eq_some_iff.1 h).2
    rw [← hx, ← List.drop_eq_getElem_cons hl, List.take_append_drop]
  conv => rhs; rw [e]
  rw [List.flatMap_append, List.flatMap_cons, List.length_append, List.length_append]
  omega
theorem flat_read {H : Type} {enc : TypeId × Value → H} {P : Program} {w : World} : ∀ (n : Nat) (t : TypeId) (fuel : Nat) (cs : List Value) (x : DataW H × List MemPlace), flatOK P n t = true → cs.length = (flatT P n t).length →
    DataW.trod enc P w 0 (fun _ => true) true fuel t cs = some x → Reach P t x.1 →
    ∀ (j : Nat) (u : TypeId), (flatT P n t)[j]? = some u → ∃ (v : Value) (y : DataW H × List MemPlace) (m : Nat), cs[j]? = some v ∧ DataW.trod enc P w 0 (fun _ => true) true m u [v] = some y ∧ Reach P u y.1
  | 0, t, fuel, cs, x, _, hl, h, hR, j, u, hu => by
    unfold flatT at hl hu
    match cs, hl with
    | [v], _ =>
      have hj : j = 0 := by have := (List.getElem?_eq_some_iff.1 hu).1; simp at this; omega
      subst hj
      obtain rfl : t = u := by simpa using hu
      exact ⟨v, x, fuel, rfl, h, hR⟩
  | n + 1, t, fuel, cs, x, hok, hl, h, hR, j, u, hu => by
    cases hs : P.underlying t with
    | none =>
      unfold flatT at hl hu
      rw [hs] at hl hu
      match cs, hl with
      | [v], _ =>
        have hj : j = 0 := by have := (List.getElem?_eq_some_iff.1 hu).1; simp at this; omega
        subst hj
        obtain rfl : t = u := by simpa using hu
        exact ⟨v, x, fuel, rfl, h, hR⟩
    | some d =>
      by_cases hd : ∃ fs, d = .struct fs
      · obtain ⟨fs, rfl⟩ := hd
        unfold flatT at hl hu
        unfold flatOK at hok
        rw [hs] at hl hu hok
        simp only at hl hu hok
        obtain ⟨i, f, j', h1, h2, h3⟩ := flat_find _ _ _ _ hu
        have h1' : fs[i]? = some f := by simpa using h1
        have hil : i < fs.size := (Array.getElem?_eq_some_iff.1 h1').1
        have hf := List.all_eq_true.1 hok i (List.mem_range.2 hil)
        rw [h1'] at hf
        simp only [Bool.and_eq_true, beq_iff_eq] at hf
        obtain ⟨hf1, hf2, hf3⟩ := hf
        obtain ⟨ys, m, _, hys, _, hyl, hrd⟩ := DataW.trod_struct hs h
        have hri := hrd i f h1'
        have hup := flat_upto (fun f : Field => flatT P n f.type) fs.toList h1
        have hyi : i < ys.length := by rw [hyl]; exact hil
        rw [List.getElem?_eq_getElem hyi, hf3] at hri
        have hx : x.1 = .agg (ys.map (·.1)) := by rw [hys]
        rw [hx] at hR
        have hRi := weights_agg hs hR h1' (d := ys[i].1) (by simp [List.getElem?_eq_getElem hyi])
        have hlen : ((cs.drop f.offset).take (flatT P n f.type).length).length = (flatT P n f.type).length := by
          rw [List.length_take, List.length_drop, hl, hf2]
          have := hup
          omega
        obtain ⟨v, y, m', g1, g2, g3⟩ := flat_read n f.type m _ ys[i] hf1 hlen hri hRi j' u h2
        refine ⟨v, y, m', ?_, g2, g3⟩
        have hj' : j' < (flatT P n f.type).length := (List.getElem?_eq_some_iff.1 h2).1
        rw [List.getElem?_take, if_pos hj', List.getElem?_drop] at g1
        rw [h3, ← hf2]
        exact g1
      · unfold flatT at hl hu
        rw [hs] at hl hu
        have e1 : (match some d with | some (.struct fs) => fs.toList.flatMap fun f => flatT P n f.type | _ => [t]) = [t] := by
          split
          · rename_i fs he
            injection he with he
            exact absurd ⟨_, he⟩ hd
          · rfl
        rw [e1] at hl hu
        match cs, hl with
        | [v], _ =>
          have hj : j = 0 := by have := (List.getElem?_eq_some_iff.1 hu).1; simp at this; omega
          subst hj
          obtain rfl : t = u := by simpa using hu
          exact ⟨v, x, fuel, rfl, h, hR⟩
theorem flat_row {H : Type} {enc : TypeId × Value → H} {P : Program} {w : World} {fuel : Nat} {t e : TypeId} {r : Option Addr} {len cap : Nat} {x : DataW H × List MemPlace} (n : Nat) (ts : List TypeId)
    (ht : P.underlying t = some (.slice e)) (hok : flatOK P n e = true) (hts : flatT P n e = ts) (hC : P.cellsOf e = ts.length) (h0 : 0 < ts.length)
    (h : DataW.trod enc P w 0 (fun _ => true) true fuel t [.slice r len cap] = some x) (hR : Reach P t x.1) :
    len ≤ cap ∧ cap ≤ maxLen ∧ (len = 0 ∨ len * P.bytesOf e ≤ 140737488351232 ∧ ∃ b off, r = some ⟨b, off, none⟩ ∧ b < w.heap.size ∧
      ∀ i, i < len → ∀ (j : Nat) (u : TypeId), ts[j]? = some u → ∃ (v : Value) (y : DataW H × List MemPlace) (m : Nat), w.cell? ⟨b, off + (i * ts.length + j), none⟩ = some v ∧ DataW.trod enc P w 0 (fun _ => true) true m u [v] = some y ∧ Reach P u y.1) := by
  subst hts
  rcases open_slice ht h with ⟨hcs, _⟩ | ⟨a, l, c, m, k, D, Pl, hcs, hb, hl, hm, hmm, hx, hi⟩
  · simp at hcs
    obtain ⟨rfl, rfl, rfl⟩ := hcs
    exact ⟨Nat.le_refl _, by simp, .inl rfl⟩
  · simp at hcs
    obtain ⟨rfl, rfl, rfl⟩ := hcs
    refine ⟨hl, hm, ?_⟩
    by_cases hz : len = 0
    · exact .inl hz
    right
    rw [hx] at hR
    obtain ⟨hw1, hw2⟩ := weights_slice ht hR
    simp only [List.length_map, List.length_range] at hw1
    have key : ∀ i, i < len → ∀ (j : Nat) (u : TypeId), (flatT P n e)[j]? = some u → ∃ (v : Value) (y : DataW H × List MemPlace) (m : Nat), w.cell? (a.add (i * (flatT P n e).length + j)) = some v ∧ DataW.trod enc P w 0 (fun _ => true) true m u [v] = some y ∧ Reach P u y.1 := by
      intro i hil j u hj
      obtain ⟨cs', hc, ht'⟩ := hi i (by rw [hmm]; simp; omega)
      rw [hC] at hc
      obtain ⟨_, hcl, hat⟩ := World.cells?_some hc
      have hRi := hw2 (D i) (List.mem_map.2 ⟨i, by simpa using hil, rfl⟩)
      obtain ⟨v, y, m', g1, g2, g3⟩ := flat_read n e k cs' (D i, Pl i) hok hcl ht' hRi j u hj
      have hjl : j < (flatT P n e).length := (List.getElem?_eq_some_iff.1 hj).1
      have hcell := hat j hjl
      refine ⟨v, y, m', by rw [← Go.Deep.add_add, hcell, g1], g2, g3⟩
    refine ⟨Nat.le_trans (Nat.mul_le_mul_right _ (Nat.le_add_right _ _)) hw1, ?_⟩
    obtain ⟨b, off, spot⟩ := a
    obtain ⟨v0, _, _, hv0, _⟩ := key 0 (by omega) 0 _ (List.getElem?_eq_getElem h0)
    simp only [Nat.zero_mul, Nat.add_zero] at hv0
    have hspot : spot = none := by
      have : ((⟨b, off, spot⟩ : Addr).add 0).spot = none := World.cell?_spot hv0
      simpa [Addr.add] using this
    subst hspot
    refine ⟨b, off, rfl, ?_, fun i hil j u hj => ?_⟩
    · rw [add_at] at hv0
      exact World.block_lt_of_cell? w _ hv0
    · obtain ⟨v, y, m', h1, h2⟩ := key i hil j u hj
      rw [add_at] at h1
      exact ⟨v, y, m', h1, h2⟩
theorem row_of {α : Type} (f : α → List Value) (k : Nat) (hk : ∀ x, (f x).length = k) (h0 : 0 < k) (good : α → Prop) (d : α) {w : World} {r : Option Addr} {len cap : Nat} (hl : len ≤ cap) (hm : cap ≤ maxLen)
    (h : len = 0 ∨ ∃ b off, r = some ⟨b, off, none⟩ ∧ b < w.heap.size ∧ ∀ i, i < len → ∃ s, good s ∧ ∀ j, j < k → w.cell? ⟨b, off + (i * k + j), none⟩ = (f s)[j]?) :
    ∃ l : List α, RO f w r len cap l ∧ ∀ s ∈ l, good s := by
  rcases h with rfl | ⟨b, off, rfl, hB, h⟩
  · exact ⟨[], ⟨rfl, hl, hm, .inl rfl⟩, by simp⟩
  · have key : ∀ i, ∃ s : α, i < len → good s ∧ ∀ j, j < k → w.cell? ⟨b, off + (i * k + j), none⟩ = (f s)[j]? := by
      intro i
      by_cases hi : i < len
      · obtain ⟨s, hs⟩ := h i hi; exact ⟨s, fun _ => hs⟩
      · exact ⟨d, fun h => absurd h hi⟩
    let T : Nat → α := fun i => Classical.choose (key i)
    have hT : ∀ i, i < len → good (T i) ∧ ∀ j, j < k → w.cell? ⟨b, off + (i * k + j), none⟩ = (f (T i))[j]? := fun i hi => Classical.choose_spec (key i) hi
    refine ⟨(List.range len).map T, ⟨by simp, hl, hm, .inr ⟨b, off, rfl, hB, fun p u hu => ?_⟩⟩, fun s hs => ?_⟩
    · have hp : p < len * k := by
        have := (List.getElem?_eq_some_iff.1 hu).1
        rw [flat_len hk] at this
        simpa using this
      have hd : p / k < len := Nat.div_lt_of_lt_mul (by rw [Nat.mul_comm]; exact hp)
      have hr : p % k < k := Nat.mod_lt _ h0
      have he : p = p / k * k + p % k := by rw [Nat.mul_comm]; exact (Nat.div_add_mod p k).symm
      rw [he, flat_at hk _ _ _ hr] at hu
      have h1 : ((List.range len).map T)[p / k]? = some (T (p / k)) := by simp [hd]
      rw [h1] at hu
      rw [he, (hT _ hd).2 _ hr]
      exact hu
    · obtain ⟨i, hi, rfl⟩ := List.mem_map.1 hs
      exact (hT i (by simpa using hi)).1
end Go.Proofs.YtpchncpcckfghaaGreat
namespace Go.Proofs.YtpchncpcckfghaaGreat
set_option linter.unusedVariables false
set_option linter.unusedSimpArgs false
structure Cm {α : Type} (c : α → α → Int) (E : α → α → Prop) : Prop where
  range : ∀ a b, c a b = -1 ∨ c a b = 0 ∨ c a b = 1
  zero : ∀ a b, c a b = 0 ↔ E a b
  anti : ∀ a b, c b a = -c a b
  trans : ∀ a b d, c a b ≤ 0 → c b d ≤ 0 → c a d ≤ 0
def thenC (x y : Int) : Int := if x = 0 then y else x
theorem Cm.lex {α : Type} {c d : α → α → Int} {E F : α → α → Prop} (hc : Cm c E) (hd : Cm d F) : Cm (fun a b => thenC (c a b) (d a b)) (fun a b => E a b ∧ F a b) := by
  refine ⟨fun a b => ?_, fun a b => ?_, fun a b => ?_, fun a b e h1 h2 => ?_⟩
  · simp only [thenC]
    split
    · exact hd.range a b
    · exact hc.range a b
  · simp only [thenC]
    split
    · next h => rw [hd.zero]; exact ⟨fun x => ⟨(hc.zero a b).1 h, x⟩, fun x => x.2⟩
    · next h => exact ⟨fun x => absurd x h, fun x => absurd ((hc.zero a b).2 x.1) h⟩
  · simp only [thenC]
    rw [hc.anti a b, hd.anti a b]
    by_cases h : c a b = 0
    · rw [if_pos h, if_pos (by omega)]
    · rw [if_neg h, if_neg (by omega)]
  · simp only [thenC] at h1 h2 ⊢
    have k1 : c a b ≤ 0 := by split at h1 <;> omega
    have k2 : c b e ≤ 0 := by split at h2 <;> omega
    have k3 := hc.trans a b e k1 k2
    by_cases h : c a e = 0
    · rw [if_pos h]
      have q1 := hc.anti a e
      have q2 := hc.trans b e a k2 (by omega)
      have q3 := hc.anti a b
      have q4 := hc.trans e a b (by omega) k1
      have q5 := hc.anti b e
      rw [if_pos (by omega)] at h1 h2
      exact hd.trans a b e h1 h2
    · rw [if_neg h]; exact k3
def cmpZ (a b : Int) : Int := if a < b then -1 else if b < a then 1 else 0
def cmpT (a b : ByteArray) : Int := if lt8 (byt a) (byt b) = true then -1 else if lt8 (byt b) (byt a) = true then 1 else 0
theorem cmZ {α : Type} (k : α → Int) : Cm (fun a b => cmpZ (k a) (k b)) (fun a b => k a = k b) := by
  refine ⟨fun a b => ?_, fun a b => ?_, fun a b => ?_, fun a b d h1 h2 => ?_⟩
  all_goals simp only [cmpZ] at *
  all_goals (repeat' split) <;> (try (repeat' split at h1)) <;> (try (repeat' split at h2)) <;> first | omega | (constructor <;> intro <;> omega)
theorem cmT {α : Type} (k : α → ByteArray) : Cm (fun a b => cmpT (k a) (k b)) (fun a b => k a = k b) := by
  refine ⟨fun a b => ?_, fun a b => ?_, fun a b => ?_, fun a b d h1 h2 => ?_⟩
  · simp only [cmpT]
    split
    · exact .inl rfl
    · split
      · exact .inr (.inr rfl)
      · exact .inr (.inl rfl)
  · simp only [cmpT]
    split
    · next h => exact ⟨fun x => by omega, fun x => by rw [x, lt8_irrefl] at h; cases h⟩
    · next h =>
      split
      · next h2 => exact ⟨fun x => by omega, fun x => by rw [x, lt8_irrefl] at h2; cases h2⟩
      · next h2 => exact ⟨fun _ => byt_inj (lt8_tri (by simpa using h) (by simpa using h2)), fun _ => rfl⟩
  · simp only [cmpT]
    by_cases h : lt8 (byt (k a)) (byt (k b)) = true
    · rw [if_pos h, if_neg (by rw [lt8_asymm h]; simp), if_pos h]; rfl
    · rw [if_neg h, if_neg h]
      by_cases h2 : lt8 (byt (k b)) (byt (k a)) = true
      · rw [if_pos h2, if_pos h2]
      · rw [if_neg h2, if_neg h2]; rfl
  · simp only [cmpT] at h1 h2 ⊢
    have g1 : lt8 (byt (k b)) (byt (k a)) = false := by
      cases h : lt8 (byt (k b)) (byt (k a))
      · rfl
      · rw [if_neg (by rw [lt8_asymm h]; simp), if_pos h] at h1; omega
    have g2 : lt8 (byt (k d)) (byt (k b)) = false := by
      cases h : lt8 (byt (k d)) (byt (k b))
      · rfl
      · rw [if_neg (by rw [lt8_asymm h]; simp), if_pos h] at h2; omega
    have g3 : lt8 (byt (k d)) (byt (k a)) = false := by
      rw [lt8_is, decide_eq_false_iff_not] at *
      intro h
      rcases Decidable.em (byt (k a) < byt (k b)) with h5 | h5
      · exact g2 (List.lt_trans h h5)
      · have e := List.le_antisymm (List.not_lt.1 h5) (List.not_lt.1 g1)
        rw [← e] at h
        exact g2 h
    split
    · omega
    · rw [if_neg (by rw [g3]; simp)]; omega
structure AlD where
  kind : Int
  sev : Int
  fn : ByteArray
  file : ByteArray
  line : Int
  expr : ByteArray
def cmpA (a b : AlD) : Int := thenC (cmpT a.file b.file) (thenC (cmpZ a.line b.line) (thenC (cmpT a.fn b.fn) (thenC (cmpZ a.kind b.kind) (thenC (cmpT a.expr b.expr) (cmpZ a.sev b.sev)))))
theorem cmA : Cm cmpA (fun a b => a = b) := by
  have h := (cmT AlD.file).lex ((cmZ AlD.line).lex ((cmT AlD.fn).lex ((cmZ AlD.kind).lex ((cmT AlD.expr).lex (cmZ AlD.sev)))))
  refine ⟨h.range, fun a b => (h.zero a b).trans ⟨fun ⟨h1, h2, h3, h4, h5, h6⟩ => ?_, fun e => by subst e; exact ⟨rfl, rfl, rfl, rfl, rfl, rfl⟩⟩, h.anti, h.trans⟩
  cases a
  cases b
  simp_all
end Go.Proofs.YtpchncpcckfghaaGreat
namespace Go.Proofs.YtpchncpcckfghaaGreat
set_option linter.unusedVariables false
set_option linter.unusedSimpArgs false
section Ranks
variable {α K R : Type} [DecidableEq K]
def aheadB (c : α → α → Int) (l : List α) (d : α) (j i : Nat) : Bool := decide (c (l.getD j d) (l.getD i d) < 0) || (decide (c (l.getD j d) (l.getD i d) = 0) && decide (j < i))
def rankL (c : α → α → Int) (key : α → K) (l : List α) (d : α) (i : Nat) : Nat := (List.range l.length).countP fun j => aheadB c l d j i && decide (key (l.getD j d) = key (l.getD i d))
def fingersL (c : α → α → Int) (key : α → K) (one : K → Nat → R) (l : List α) (d : α) : List R := (List.range l.length).map fun i => one (key (l.getD i d)) (rankL c key l d i)
theorem ahead_self {c : α → α → Int} (hc : Cm c (fun a b => a = b)) (l : List α) (d : α) (i : Nat) : aheadB c l d i i = false := by
  unfold aheadB
  rw [(hc.zero _ _).2 rfl]
  simp
theorem ahead_asymm {c : α → α → Int} (hc : Cm c (fun a b => a = b)) {l : List α} {d : α} {i j : Nat} (h : aheadB c l d i j = true) : aheadB c l d j i = false := by
  unfold aheadB at *
  have := hc.anti (l.getD i d) (l.getD j d)
  simp only [Bool.or_eq_true, Bool.and_eq_true, decide_eq_true_eq, Bool.or_eq_false_iff, Bool.and_eq_false_iff, decide_eq_false_iff_not] at h ⊢
  omega
theorem rank_row {c : α → α → Int} (hc : Cm c (fun a b => a = b)) (key : α → K) {l : List α} {d : α} {S p q : List Nat} {i : Nat} (hp : S.Perm (List.range l.length)) (hs : S.Pairwise fun a b => aheadB c l d a b = true) (hS : S = p ++ i :: q) :
    rankL c key l d i = p.countP fun j => decide (key (l.getD j d) = key (l.getD i d)) := by
  unfold rankL
  rw [← hp.countP_eq, hS, List.countP_append, List.countP_cons]
  subst hS
  rw [List.pairwise_append] at hs
  obtain ⟨_, h2, h3⟩ := hs
  rw [List.pairwise_cons] at h2
  have e1 : List.countP (fun j => aheadB c l d j i && decide (key (l.getD j d) = key (l.getD i d))) p = p.countP fun j => decide (key (l.getD j d) = key (l.getD i d)) := by
    apply List.countP_congr
    intro x hx
    rw [h3 x hx i (by simp)]
    simp
  have e2 : List.countP (fun j => aheadB c l d j i && decide (key (l.getD j d) = key (l.getD i d))) q = 0 := by
    rw [List.countP_eq_zero]
    intro x hx
    rw [ahead_asymm hc (h2.1 x hx)]
    simp
  rw [e1, e2, ahead_self hc]
  simp
end Ranks
end Go.Proofs.YtpchncpcckfghaaGreat
namespace Go.Proofs.YtpchncpcckfghaaGreat
open Go.RowKit Go.ChangeShapes Go.WideShapes Go.Deep
set_option linter.unusedVariables false
set_option linter.unusedSimpArgs false
structure MkD where
  f : Int
  note : ByteArray
  deriving DecidableEq
def mk0 : MkD := ⟨0, ⟨#[]⟩⟩
def mkC (t : MkD) : List Value := [.int .u64 t.f, .string t.note]
theorem mkC_len (t : MkD) : (mkC t).length = 2 := rfl
theorem mk_at {w : World} {a : Option Addr} {n c : Nat} {l : List MkD} (h : RO mkC w a n c l) {i : Nat} (hi : i < n) :
    ∃ b off, a = some ⟨b, off, none⟩ ∧ b < w.heap.size ∧ w.cell? ⟨b, off + i * 2, none⟩ = some (.int .u64 (l.getD i mk0).f) ∧ w.cell? ⟨b, off + i * 2 + 1, none⟩ = some (.string (l.getD i mk0).note) := by
  obtain ⟨b, off, h1, h2, h3⟩ := h.at_ mkC_len (by decide) mk0 hi
  exact ⟨b, off, h1, h2, h3 0 (by decide), h3 1 (by decide)⟩
def hasB (l : List MkD) (f : Int) : Bool := l.any fun t => decide (t.f = f)
end Go.Proofs.YtpchncpcckfghaaGreat
namespace Go.Proofs.YtpchncpcckfghaaGreat
set_option linter.unusedVariables false
set_option linter.unusedSimpArgs false
def riseM (l : List MkD) : Prop := l.Pairwise fun a b => a.f < b.f
def look (l : List MkD) (f : Int) : Option ByteArray := (l.find? fun t => decide (t.f = f)).map (·.note)
theorem look_nil (f : Int) : look [] f = none := rfl
theorem look_cons (t : MkD) (l : List MkD) (f : Int) : look (t :: l) f = if t.f = f then some t.note else look l f := by
  unfold look
  by_cases h : t.f = f
  · simp [h]
  · simp [h]
theorem look_none {l : List MkD} {f : Int} (h : ∀ t ∈ l, t.f ≠ f) : look l f = none := by
  induction l with
  | nil => rfl
  | cons t l ih => rw [look_cons, if_neg (h t List.mem_cons_self)]; exact ih fun u hu => h u (List.mem_cons_of_mem _ hu)
theorem look_mem {l : List MkD} (hr : riseM l) {t : MkD} (h : t ∈ l) : look l t.f = some t.note := by
  induction l with
  | nil => cases h
  | cons u l ih =>
    rw [look_cons]
    obtain ⟨h1, h2⟩ := List.pairwise_cons.1 hr
    rcases List.mem_cons.1 h with rfl | h
    · rw [if_pos rfl]
    · rw [if_neg (by have := h1 t h; omega)]
      exact ih h2 h
theorem look_has (l : List MkD) (f : Int) : hasB l f = (look l f).isSome := by
  induction l with
  | nil => rfl
  | cons t l ih =>
    rw [look_cons]
    unfold hasB at ih ⊢
    rw [List.any_cons, ih]
    by_cases h : t.f = f
    · rw [if_pos h, decide_eq_true h]; rfl
    · rw [if_neg h, decide_eq_false h, Bool.false_or]
theorem look_ext : ∀ {a b : List MkD}, riseM a → riseM b → (∀ f, look a f = look b f) → a = b
  | [], [], _, _, _ => rfl
  | [], y :: b, _, _, h => by
    have := h y.f
    rw [look_nil, look_cons, if_pos rfl] at this
    cases this
  | x :: a, [], _, _, h => by
    have := h x.f
    rw [look_nil, look_cons, if_pos rfl] at this
    cases this
  | x :: a, y :: b, ha, hb, h => by
    obtain ⟨a1, a2⟩ := List.pairwise_cons.1 ha
    obtain ⟨b1, b2⟩ := List.pairwise_cons.1 hb
    have hx : ¬ x.f < y.f := fun hlt => by
      have q := h x.f
      rw [look_cons, if_pos rfl, look_cons, if_neg (by omega), look_none (fun t ht => by have := b1 t ht; omega)] at q
      cases q
    have hy : ¬ y.f < x.f := fun hlt => by
      have q := h y.f
      rw [look_cons, if_neg (by omega), look_none (fun t ht => by have := a1 t ht; omega), look_cons, if_pos rfl] at q
      cases q
    have hf : x.f = y.f := by omega
    have hn : x.note = y.note := by
      have q := h x.f
      rw [look_cons, if_pos rfl, look_cons, if_pos hf.symm] at q
      injection q
    have hxy : x = y := by cases x; cases y; simp at hf hn; rw [hf, hn]
    subst hxy
    rw [look_ext a2 b2 fun f => ?_]
    by_cases e : f = x.f
    · rw [e, look_none (fun t ht => by have := a1 t ht; omega), look_none (fun t ht => by have := b1 t ht; omega)]
    · have q := h f
      rw [look_cons, if_neg (by omega), look_cons, if_neg (by omega)] at q
      exact q
def maxN (a b : ByteArray) : ByteArray := if lt8 (byt a) (byt b) = true then b else a
def joinN : Option ByteArray → Option ByteArray → Option ByteArray
  | some a, some b => some (maxN a b)
  | some a, none => some a
  | none, b => b
def putL : List MkD → MkD → List MkD
  | [], m => [m]
  | t :: l, m => if t.f < m.f then t :: putL l m else if t.f = m.f then ⟨t.f, maxN t.note m.note⟩ :: l else m :: t :: l
theorem putL_mem {l : List MkD} {m t : MkD} (h : t ∈ putL l m) : t.f = m.f ∨ t ∈ l := by
  induction l with
  | nil => left; rw [List.mem_singleton.1 h]
  | cons u l ih =>
    unfold putL at h
    split at h
    · rcases List.mem_cons.1 h with rfl | h
      · exact .inr List.mem_cons_self
      · exact (ih h).imp_right (List.mem_cons_of_mem _)
    · split at h
      · rename_i e
        rcases List.mem_cons.1 h with rfl | h
        · exact .inl e
        · exact .inr (List.mem_cons_of_mem _ h)
      · rcases List.mem_cons.1 h with rfl | h
        · exact .inl rfl
        · exact .inr h
theorem putL_rise {l : List MkD} (m : MkD) (hr : riseM l) : riseM (putL l m) := by
  induction l with
  | nil => exact List.pairwise_singleton _ _
  | cons u l ih =>
    obtain ⟨h1, h2⟩ := List.pairwise_cons.1 hr
    unfold putL
    split
    · rename_i hlt
      refine List.pairwise_cons.2 ⟨fun t ht => ?_, ih h2⟩
      rcases putL_mem ht with e | e
      · omega
      · exact h1 t e
    · split
      · exact List.pairwise_cons.2 ⟨h1, h2⟩
      · refine List.pairwise_cons.2 ⟨fun t ht => ?_, hr⟩
        rcases List.mem_cons.1 ht with rfl | ht
        · omega
        · have := h1 t ht; omega
theorem putL_look {l : List MkD} (m : MkD) (hr : riseM l) (f : Int) : look (putL l m) f = if f = m.f then joinN (look l f) (some m.note) else look l f := by
  induction l with
  | nil =>
    show look [m] f = _
    rw [look_cons]
    by_cases e : f = m.f
    · rw [if_pos e, if_pos e.symm]; rfl
    · rw [if_neg e, if_neg (by omega)]
  | cons u l ih =>
    obtain ⟨h1, h2⟩ := List.pairwise_cons.1 hr
    unfold putL
    split
    · rename_i hlt
      rw [look_cons, ih h2, look_cons]
      by_cases e : f = m.f
      · rw [if_pos e, if_pos e, if_neg (by omega), if_neg (by omega)]
      · rw [if_neg e, if_neg e]
    · split
      · rename_i _ he
        rw [look_cons, look_cons]
        by_cases e : f = m.f
        · rw [if_pos e, if_pos (by show u.f = f; omega), if_pos (by omega)]; rfl
        · rw [if_neg e, if_neg (by show ¬ u.f = f; omega), if_neg (by omega)]
      · rename_i _ he
        rw [look_cons]
        by_cases e : f = m.f
        · rw [if_pos e, if_pos e.symm, look_none (fun t ht => by
            rcases List.mem_cons.1 ht with rfl | ht
            · omega
            · have := h1 t ht; omega)]
          rfl
        · rw [if_neg e, if_neg (by omega)]
def unionR (a b : List MkD) : List MkD := b.foldl putL a
theorem unionR_rise : ∀ (b : List MkD) {a : List MkD}, riseM a → riseM (unionR a b)
  | [], a, h => h
  | y :: b, a, h => unionR_rise b (a := putL a y) (putL_rise y h)
theorem unionR_look : ∀ (b : List MkD) {a : List MkD}, riseM a → riseM b → ∀ f, look (unionR a b) f = joinN (look a f) (look b f)
  | [], a, ha, hb, f => by
    show look a f = _
    rw [look_nil]
    cases look a f <;> rfl
  | y :: b, a, ha, hb, f => by
    obtain ⟨h1, h2⟩ := List.pairwise_cons.1 hb
    show look (unionR (putL a y) b) f = _
    rw [unionR_look b (putL_rise y ha) h2 f, putL_look y ha, look_cons]
    by_cases e : f = y.f
    · rw [if_pos e, if_pos e.symm, look_none (l := b) (fun t ht => by have := h1 t ht; omega)]
      cases look a f <;> rfl
    · rw [if_neg e, if_neg (by omega)]
def mergeL : List MkD → List MkD → List MkD
  | [], b => b
  | a, [] => a
  | x :: a, y :: b => if x.f < y.f then x :: mergeL a (y :: b) else if y.f < x.f then y :: mergeL (x :: a) b else ⟨x.f, maxN x.note y.note⟩ :: mergeL a b
  termination_by a b => a.length + b.length
theorem mergeL_nil (a : List MkD) : mergeL a [] = a := by cases a <;> simp [mergeL]
theorem mergeL_mem : ∀ (a b : List MkD) {t : MkD}, t ∈ mergeL a b → (∃ u ∈ a, u.f = t.f) ∨ ∃ u ∈ b, u.f = t.f
  | [], b, t, h => by
    rw [mergeL] at h
    exact .inr ⟨t, h, rfl⟩
  | x :: a, [], t, h => by
    rw [mergeL_nil] at h
    exact .inl ⟨t, h, rfl⟩
  | x :: a, y :: b, t, h => by
    rw [mergeL] at h
    split at h
    · rcases List.mem_cons.1 h with rfl | h
      · exact .inl ⟨_, List.mem_cons_self, rfl⟩
      · rcases mergeL_mem a (y :: b) h with ⟨u, hu, e⟩ | h
        · exact .inl ⟨u, List.mem_cons_of_mem _ hu, e⟩
        · exact .inr h
    · split at h
      · rcases List.mem_cons.1 h with rfl | h
        · exact .inr ⟨_, List.mem_cons_self, rfl⟩
        · rcases mergeL_mem (x :: a) b h with h | ⟨u, hu, e⟩
          · exact .inl h
          · exact .inr ⟨u, List.mem_cons_of_mem _ hu, e⟩
      · rcases List.mem_cons.1 h with rfl | h
        · exact .inl ⟨x, List.mem_cons_self, rfl⟩
        · rcases mergeL_mem a b h with ⟨u, hu, e⟩ | ⟨u, hu, e⟩
          · exact .inl ⟨u, List.mem_cons_of_mem _ hu, e⟩
          · exact .inr ⟨u, List.mem_cons_of_mem _ hu, e⟩
  termination_by a b => a.length + b.length
theorem mergeL_rise : ∀ (a b : List MkD), riseM a → riseM b → riseM (mergeL a b)
  | [], b, _, hb => by rw [mergeL]; exact hb
  | x :: a, [], ha, _ => by rw [mergeL_nil]; exact ha
  | x :: a, y :: b, ha, hb => by
    obtain ⟨a1, a2⟩ := List.pairwise_cons.1 ha
    obtain ⟨b1, b2⟩ := List.pairwise_cons.1 hb
    rw [mergeL]
    split
    · refine List.pairwise_cons.2 ⟨fun t ht => ?_, mergeL_rise a (y :: b) a2 hb⟩
      rcases mergeL_mem a (y :: b) ht with ⟨u, hu, e⟩ | ⟨u, hu, e⟩
      · have := a1 u hu; omega
      · rcases List.mem_cons.1 hu with rfl | hu
        · omega
        · have := b1 u hu; omega
    · split
      · refine List.pairwise_cons.2 ⟨fun t ht => ?_, mergeL_rise (x :: a) b ha b2⟩
        rcases mergeL_mem (x :: a) b ht with ⟨u, hu, e⟩ | ⟨u, hu, e⟩
        · rcases List.mem_cons.1 hu with rfl | hu
          · omega
          · have := a1 u hu; omega
        · have := b1 u hu; omega
      · refine List.pairwise_cons.2 ⟨fun t ht => ?_, mergeL_rise a b a2 b2⟩
        show x.f < t.f
        rcases mergeL_mem a b ht with ⟨u, hu, e⟩ | ⟨u, hu, e⟩
        · have := a1 u hu; omega
        · have := b1 u hu; omega
  termination_by a b => a.length + b.length
theorem mergeL_look : ∀ (a b : List MkD), riseM a → riseM b → ∀ f, look (mergeL a b) f = joinN (look a f) (look b f)
  | [], b, _, hb, f => by rw [mergeL]; rfl
  | x :: a, [], ha, _, f => by
    rw [mergeL_nil, look_nil]
    cases look (x :: a) f <;> rfl
  | x :: a, y :: b, ha, hb, f => by
    obtain ⟨a1, a2⟩ := List.pairwise_cons.1 ha
    obtain ⟨b1, b2⟩ := List.pairwise_cons.1 hb
    rw [mergeL]
    split
    · rename_i h1
      rw [look_cons x, mergeL_look a (y :: b) a2 hb f, look_cons x a]
      by_cases e : x.f = f
      · rw [if_pos e, if_pos e, look_none (l := y :: b) (fun t ht => by
          rcases List.mem_cons.1 ht with rfl | ht
          · omega
          · have := b1 t ht; omega)]
        rfl
      · rw [if_neg e, if_neg e]
    · split
      · rename_i h1
        rw [look_cons y, mergeL_look (x :: a) b ha b2 f, look_cons y b]
        by_cases e : y.f = f
        · rw [if_pos e, if_pos e, look_none (l := x :: a) (fun t ht => by
            rcases List.mem_cons.1 ht with rfl | ht
            · omega
            · have := a1 t ht; omega)]
          rfl
        · rw [if_neg e, if_neg e]
      · rename_i h0 h1
        rw [look_cons, mergeL_look a b a2 b2 f, look_cons x a, look_cons y b]
        show (if x.f = f then _ else _) = _
        by_cases e : x.f = f
        · rw [if_pos e, if_pos e, if_pos (by omega)]; rfl
        · rw [if_neg e, if_neg e, if_neg (by omega)]
  termination_by a b => a.length + b.length
theorem merge_union {a b : List MkD} (ha : riseM a) (hb : riseM b) : mergeL a b = unionR a b :=
  look_ext (mergeL_rise a b ha hb) (unionR_rise b ha) fun f => by rw [mergeL_look a b ha hb, unionR_look b ha hb]
def lessL (a b : List MkD) : List MkD := a.filter fun t => !(hasB b t.f)
def ofR (fs : List Int) (s : ByteArray) : List MkD := unionR [] (fs.map fun f => ⟨f, s⟩)
theorem maxN_self (s : ByteArray) : maxN s s = s := by unfold maxN; split <;> rfl
theorem ofR_go (s : ByteArray) : ∀ (fs : List Int) {a : List MkD}, riseM a → (∀ f t, look a f = some t → t = s) → riseM (unionR a (fs.map fun f => ⟨f, s⟩)) ∧ ∀ f, look (unionR a (fs.map fun f => ⟨f, s⟩)) f = if f ∈ fs then some s else look a f
  | [], a, ha, _ => ⟨ha, fun f => by rw [if_neg (by simp)]; rfl⟩
  | g :: fs, a, ha, hn => by
    have hp : ∀ f, look (putL a ⟨g, s⟩) f = if f = g then some s else look a f := fun f => by
      rw [putL_look _ ha]
      show (if f = g then _ else _) = _
      split
      · cases h : look a f with
        | none => rfl
        | some t => rw [hn f t h]; show some (maxN s s) = _; rw [maxN_self]
      · rfl
    obtain ⟨h1, h2⟩ := ofR_go s fs (a := putL a ⟨g, s⟩) (putL_rise _ ha) (fun f t h => by
      rw [hp] at h
      split at h
      · injection h with h; exact h.symm
      · exact hn f t h)
    refine ⟨h1, fun f => ?_⟩
    have h3 := h2 f
    show look (unionR (putL a ⟨g, s⟩) (fs.map fun f => ⟨f, s⟩)) f = _
    rw [h3, hp]
    by_cases e1 : f ∈ fs
    · rw [if_pos e1, if_pos (List.mem_cons_of_mem _ e1)]
    · rw [if_neg e1]
      by_cases e2 : f = g
      · rw [if_pos e2, if_pos (by rw [e2]; exact List.mem_cons_self)]
      · rw [if_neg e2, if_neg (by simp [e1, e2])]
theorem ofR_rise (fs : List Int) (s : ByteArray) : riseM (ofR fs s) := (ofR_go s fs (a := []) List.Pairwise.nil (by intro f t h; cases h)).1
theorem ofR_look (fs : List Int) (s : ByteArray) (f : Int) : look (ofR fs s) f = if f ∈ fs then some s else none := (ofR_go s fs (a := []) List.Pairwise.nil (by intro f t h; cases h)).2 f
theorem ofR_is {gs fs : List Int} (s : ByteArray) (hg : gs.Pairwise (· < ·)) (hm : ∀ f, f ∈ gs ↔ f ∈ fs) : gs.map (fun f => (⟨f, s⟩ : MkD)) = ofR fs s := by
  have hr : riseM (gs.map (fun f => (⟨f, s⟩ : MkD))) := by
    unfold riseM
    rw [List.pairwise_map]
    exact hg
  refine look_ext hr (ofR_rise fs s) fun f => ?_
  rw [ofR_look]
  by_cases e : f ∈ fs
  · rw [if_pos e]
    exact look_mem hr (t := ⟨f, s⟩) (List.mem_map.2 ⟨f, (hm f).2 e, rfl⟩)
  · rw [if_neg e]
    refine look_none fun t ht => ?_
    obtain ⟨g, hg2, rfl⟩ := List.mem_map.1 ht
    intro h
    exact e ((hm f).1 (by rw [← h]; exact hg2))
def okAt (l : List MkD) (i : Nat) : Bool := noteB (l.getD i mk0).note && (decide (i = 0) || decide ((l.getD (i - 1) mk0).f < (l.getD i mk0).f))
def baseB (l : List MkD) : Bool := decide (l.length ≤ 1024) && (List.range l.length).all (okAt l)
theorem baseB_len {l : List MkD} (h : baseB l = true) : l.length ≤ 1024 := by
  unfold baseB at h
  rw [Bool.and_eq_true, decide_eq_true_eq] at h
  exact h.1
theorem baseB_big {l : List MkD} (h : 1024 < l.length) : baseB l = false := by
  unfold baseB
  rw [decide_eq_false (by omega)]
  rfl
theorem baseB_at {l : List MkD} {i : Nat} (hi : i < l.length) (h : okAt l i = false) : baseB l = false := by
  unfold baseB
  rw [Bool.and_eq_false_iff]
  right
  rw [List.all_eq_false]
  exact ⟨i, List.mem_range.2 hi, by rw [h]; simp⟩
theorem baseB_yes {l : List MkD} (hl : l.length ≤ 1024) (h : ∀ i, i < l.length → okAt l i = true) : baseB l = true := by
  unfold baseB
  rw [decide_eq_true hl, Bool.true_and, List.all_eq_true]
  exact fun i hi => h i (List.mem_range.1 hi)
theorem baseB_rise {l : List MkD} (h : baseB l = true) : riseM l := by
  have h1 : ∀ i, i + 1 < l.length → (l.getD i mk0).f < (l.getD (i + 1) mk0).f := by
    intro i hi
    unfold baseB at h
    rw [Bool.and_eq_true, List.all_eq_true] at h
    have := h.2 (i + 1) (List.mem_range.2 hi)
    unfold okAt at this
    simp at this
    exact this.2
  have h2 : ∀ d i, i + 1 + d < l.length → (l.getD i mk0).f < (l.getD (i + 1 + d) mk0).f := by
    intro d
    induction d with
    | zero => intro i hi; exact h1 i hi
    | succ d ih => intro i hi; exact Int.lt_trans (ih i (by omega)) (h1 (i + 1 + d) (by omega))
  unfold riseM
  rw [List.pairwise_iff_getElem]
  intro i j hi hj hij
  have := h2 (j - i - 1) i (by omega)
  rw [show i + 1 + (j - i - 1) = j by omega] at this
  simpa [List.getD, hi, hj] using this
end Go.Proofs.YtpchncpcckfghaaGreat
namespace Go.Proofs.YtpchncpcckfghaaGreat
open Go.RowKit
set_option linter.unusedVariables false
theorem wp_drawn_on (S : World → Prop) {P : Program} {ops : Array Oper} {Q : Exit → Act → World → Prop} {id : Nat} {a : Act} {w : World} (hm : P.follows .mixedOrders = true) (hS : S w.drew)
    (h : S w.drew → wpAnyH P .any ops Q S ops.size (Array.replicate ops.size false) a w.drew) : (Code.region id ops true).wp P Q a w :=
  wp_region_held_drew hm hS h
theorem wT {P : Program} {md : Region.Mode} {ops : Array Oper} {Q : Exit → Act → World → Prop} {S : World → Prop} (i : Nat) {d op ty pos af gd} {v : Value} {fuel : Nat} {listed : Array Bool} {a : Act} {w : World} (hi : ops[i]? = some (⟨d, op, ty, pos, af, gd⟩ : Oper))
    (hb : (Region.noSelect ops && Region.free md ops listed i && (Region.ready md ops listed).contains i && Region.wanted ⟨d, op, ty, pos, af, gd⟩ (yielded ops a.tmps)) = true)
    (hQ : ∀ c b w, Q (.panic c) (b.put d v) w → Q (.panic c) b w) (hy : ∀ w, S w → (execOp a.eval ⟨d, op, ty, pos, af, gd⟩).run P w = .ok (.value v) w) (hS : S w)
    (h : wpAnyH P md ops Q S fuel (listed.setIfInBounds i true) (a.put d v) w) : wpAnyH P md ops Q S (fuel + 1) listed a w := by
  simp only [Bool.and_eq_true] at hb
  exact wpAnyH_take hi hb.1.1.1 hb.1.1.2 hb.1.2 hQ (.inl ⟨hb.2, hy⟩) hS h
theorem wS {P : Program} {md : Region.Mode} {ops : Array Oper} {Q : Exit → Act → World → Prop} {S : World → Prop} (i : Nat) {d op ty pos af gd} {fuel : Nat} {listed : Array Bool} {a : Act} {w : World} (hi : ops[i]? = some (⟨d, op, ty, pos, af, gd⟩ : Oper))
    (hb : (Region.noSelect ops && Region.free md ops listed i && (Region.ready md ops listed).contains i && !Region.wanted ⟨d, op, ty, pos, af, gd⟩ (yielded ops a.tmps)) = true)
    (hQ : ∀ c b w, Q (.panic c) (b.put d undef) w → Q (.panic c) b w) (hS : S w)
    (h : wpAnyH P md ops Q S fuel (listed.setIfInBounds i true) (a.put d undef) w) : wpAnyH P md ops Q S (fuel + 1) listed a w := by
  simp only [Bool.and_eq_true, Bool.not_eq_true'] at hb
  exact wpAnyH_take hi hb.1.1.1 hb.1.1.2 hb.1.2 hQ (.inr ⟨hb.2, rfl⟩) hS h
end Go.Proofs.YtpchncpcckfghaaGreat
