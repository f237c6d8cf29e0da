/-
  Words and walks under the law's proof.
-/
import Derived.WalkKit
import Derived.LoopTactic
import Derived.Outline
import Derived.Lib.Hide
import Derived.Laws.BytesArg
import Derived.Laws.AppendOwnNone
import Derived.Deep.Draws
import Derived.Deep.QuietTactic
import Derived.BigQuiet
import Derived.WalkSmall
import Derived.Maps.AppendAt
import Derived.Lib.ConvBytes
import Derived.Test.YtknnjkhocbpohaaDoorRows
import Derived.Laws.Bits64b
import Derived.Laws.BitsAllLaws
import Derived.Lib.Bytealg
import Derived.Laws.Externs
import Derived.Deep.Slices
import Derived.Deep.Fields
import Derived.ChangeSame
import Derived.SizedLaws
import Derived.IntWalk
import Derived.ArgAppend
import Derived.Laws.CopyRow
import Derived.Laws.Tables
import Derived.Deep.RegionHeld3
import Derived.Deep.DrawnRows
import Derived.Shelf.GgClosure.StringsIndexFuncTop
import Derived.Lib.RuneCount
import Derived.Shelf.Small.Strs
import Derived.Shelf.Strings.Search1
import Derived.Shelf.GgClosure.StringsIndexFunc
import Derived.Ground.GgwProg
import Derived.Shelf.GgClosure.StringsRunes
import Derived.Shelf.Strings.FuncGrows
import Derived.Test.YtknnjkhocbpohaaDoorProg
namespace Go.Proofs.YtknnjkhocbpohaaDoor
open Go.RowKit
set_option linter.unusedVariables false
def nums (k : IntKind) (l : List Int) : List Value := l.map (Value.int k)
def Sees (k : IntKind) (B : Nat) (w : World) (a : Option Addr) (l : List Int) : Prop :=
  l = [] ∨ ∃ b off, a = some ⟨b, off, none⟩ ∧ b < B ∧ ∀ i, i < l.length → w.cell? ⟨b, off + i, none⟩ = some (.int k (l.getD i 0))
theorem Sees.below {k B w w' a l} (h : Sees k B w a l) (hb : Below B w w') : Sees k B w' a l := by
  rcases h with h | ⟨b, off, rfl, hB, hc⟩
  · exact .inl h
  · exact .inr ⟨b, off, rfl, hB, fun i hi => (hb.cell (p := ⟨b, off + i, none⟩) hB).trans (hc i hi)⟩
theorem Sees.mono {k B B' w a l} (h : Sees k B w a l) (hb : B ≤ B') : Sees k B' w a l := by
  rcases h with h | ⟨b, off, rfl, hB, hc⟩
  · exact .inl h
  · exact .inr ⟨b, off, rfl, by omega, hc⟩
theorem Sees.nil {k B w a} : Sees k B w a [] := .inl rfl
theorem sees_own {k : IntKind} {w : World} {base : Nat} {e : TypeId} {v : Value} {n : Nat} {l : List Int} (h : w.ownsRow base e 1 v n (nums k l)) :
    ∃ a cap, v = .slice a l.length cap ∧ n = l.length ∧ Sees k w.heap.size w a l := by
  have hn : n = l.length := by have := h.1; simp [nums] at this; omega
  rcases h.2 with ⟨rfl, h0⟩ | ⟨g, cap, cur, rfl, _, hg, _⟩
  · subst hn
    exact ⟨none, 0, by rw [h0], rfl, .inl (List.eq_nil_of_length_eq_zero h0)⟩
  · subst hn
    refine ⟨_, cap, rfl, rfl, .inr ⟨g, 0, rfl, (Array.getElem?_eq_some_iff.1 hg).1, fun i hi => ?_⟩⟩
    have := h.cells (g := g) rfl i (.int k (l.getD i 0)) (by simp [nums, List.getD, hi])
    have h2 : (⟨g, 0, none⟩ : Addr).add i = ⟨g, 0 + i, none⟩ := by unfold Addr.add; split <;> simp_all
    rw [h2] at this
    exact this
def Made (e0 : TypeId) (k : IntKind) (w : World) (l : List Int) (e : Ending) (w' : World) : Prop :=
  ∃ v, e = .returned v ∧ w'.ownsRow w.heap.size e0 1 v l.length (nums k l) ∧ Below w.heap.size w w'
def Gives (v : Value) (w : World) (e : Ending) (w' : World) : Prop := e = .returned v ∧ Below w.heap.size w w'
def Bs (l : List Int) : Prop := ∀ x ∈ l, 0 ≤ x ∧ x ≤ 255
theorem Bs.at {l : List Int} (h : Bs l) {i : Nat} (hi : i < l.length) : 0 ≤ l.getD i 0 ∧ l.getD i 0 ≤ 255 := by
  simp only [List.getD, List.getElem?_eq_getElem hi, Option.getD_some]
  exact h _ (List.getElem_mem _)
theorem ret_bool {a b : Bool} (h : a = b) : Ending.returned (.bool a) = Ending.returned (.bool b) := by rw [h]
theorem Made.open {e0 : TypeId} {k : IntKind} {w w' : World} {l : List Int} {e : Ending} (h : Made e0 k w l e w') (n : Nat) (hn : l.length = n) :
    ∃ a cap, e = .returned (.slice a n cap) ∧ Sees k w'.heap.size w' a l ∧ Below w.heap.size w w' := by
  subst hn
  obtain ⟨v, rfl, hown, hb⟩ := h
  obtain ⟨a, cap, rfl, _, hs⟩ := sees_own hown
  exact ⟨a, cap, rfl, hs, hb⟩
theorem Sees.take {k : IntKind} {B : Nat} {w : World} {a : Option Addr} {l : List Int} (h : Sees k B w a l) (n : Nat) : Sees k B w a (l.take n) := by
  rcases h with rfl | ⟨b, off, rfl, hB, hc⟩
  · left; simp
  · refine .inr ⟨b, off, rfl, hB, fun i hi => ?_⟩
    have h1 : i < l.length := by simp at hi; omega
    have h2 : i < n := by simp at hi; omega
    rw [hc i h1]
    simp [List.getD, h2]
theorem Bs.take {l : List Int} (h : Bs l) (n : Nat) : Bs (l.take n) := fun x hx => h x (List.mem_of_mem_take hx)
end Go.Proofs.YtknnjkhocbpohaaDoor
namespace Go.Proofs.YtknnjkhocbpohaaDoor
open Go.RowKit
set_option linter.unusedVariables false
theorem run_append_none {P : Program} (w : World) (base : Nat) (t ty e : TypeId) (i : TypeInfo) (size : Nat) (ht : P.underlying t = some (.slice e)) (hi : P.info? e = some i)
    (v : Value) (n : Nat) (xs : List Value) (hown : w.ownsRow base e size v n xs) (c : Nat) : (Builtin.append_ #[t, t] ty #[v, .slice none 0 c]).run P w = .ok v w := by
  rcases hown.2 with ⟨rfl, rfl⟩ | ⟨g, cap, cur, rfl, _, _, hnc, _⟩
  · simp [Builtin.append_, run_underlying ht, sizeOf, typeInfo, hi, Builtin.lenOf, Builtin.firstCells]
  · simp [Builtin.append_, run_underlying ht, sizeOf, typeInfo, hi, Builtin.lenOf, Builtin.firstCells, hnc, storeCells]
end Go.Proofs.YtknnjkhocbpohaaDoor
namespace Go.Proofs.YtknnjkhocbpohaaDoor
open Go.RowKit
set_option linter.unusedVariables false
structure BelowE (X : List Nat) (B : Nat) (w w' : World) : Prop where
  os : w'.os = w.os
  tape : w'.tape = w.tape
  output : w'.output = w.output
  size : w.heap.size ≤ w'.heap.size
  block : ∀ k, k < B → k ∉ X → w'.heap[k]? = w.heap[k]?
theorem BelowE.refl (X : List Nat) (B : Nat) (w : World) : BelowE X B w w := ⟨rfl, rfl, rfl, Nat.le_refl _, fun _ _ _ => rfl⟩
theorem BelowE.of {X : List Nat} {B : Nat} {w w' : World} (h : Below B w w') : BelowE X B w w' := ⟨h.os, h.tape, h.output, h.size, fun k hk _ => h.block k hk⟩
theorem BelowE.none {B : Nat} {w w' : World} (h : BelowE [] B w w') : Below B w w' := ⟨h.os, h.tape, h.output, h.size, fun k hk => h.block k hk (by simp)⟩
theorem BelowE.trans {X : List Nat} {B : Nat} {a b c : World} (h : BelowE X B a b) (k : BelowE X B b c) : BelowE X B a c :=
  ⟨k.os.trans h.os, k.tape.trans h.tape, k.output.trans h.output, Nat.le_trans h.size k.size, fun i hi hx => (k.block i hi hx).trans (h.block i hi hx)⟩
theorem BelowE.mono {X : List Nat} {B B' : Nat} {w w' : World} (h : BelowE X B w w') (hB : B' ≤ B) : BelowE X B' w w' :=
  ⟨h.os, h.tape, h.output, h.size, fun k hk hx => h.block k (Nat.lt_of_lt_of_le hk hB) hx⟩
theorem BelowE.less {X Y : List Nat} {B : Nat} {w w' : World} (h : BelowE X B w w') (hX : ∀ x ∈ X, x < B → x ∈ Y) : BelowE Y B w w' :=
  ⟨h.os, h.tape, h.output, h.size, fun k hk hx => h.block k hk fun hm => hx (hX k hm hk)⟩
theorem BelowE.drew {X : List Nat} {B : Nat} {a w : World} (h : BelowE X B a w) : BelowE X B a w.drew := ⟨h.os, h.tape, h.output, h.size, h.block⟩
theorem BelowE.drewN {X : List Nat} {B : Nat} {a w : World} (h : BelowE X B a w) (n : Nat) : BelowE X B a (w.drewN n) := ⟨h.os, h.tape, h.output, h.size, h.block⟩
theorem BelowE.alloc {X : List Nat} {B : Nat} {a w : World} (h : BelowE X B a w) (hB : B ≤ w.heap.size) (o : Obj) : BelowE X B a (w.alloc o) :=
  h.trans (.of ((Below.refl B w).alloc hB o))
theorem BelowE.setNew {X : List Nat} {B : Nat} {a w : World} (h : BelowE X B a w) {p : Addr} (hp : B ≤ p.block) (u : Value) : BelowE X B a (w.setCell p u) :=
  h.trans (.of ((Below.refl B w).setCell hp u))
theorem BelowE.setIn {X : List Nat} {B : Nat} {a w : World} (h : BelowE X B a w) {p : Addr} (hp : p.block ∈ X) (u : Value) : BelowE X B a (w.setCell p u) :=
  h.trans ⟨rfl, rfl, rfl, by simp [World.setCell], fun k _ hx => Below.heap_setCell _ _ _ _ (fun e => hx (e ▸ hp))⟩
theorem BelowE.cell {X : List Nat} {B : Nat} {w w' : World} (h : BelowE X B w w') {p : Addr} (hp : p.block < B) (hx : p.block ∉ X) : w'.cell? p = w.cell? p := World.cell?_of_block (w := w) (h.block p.block hp hx)
def Holds (w : World) (g : Nat) (t : TypeId) (cs : Array Value) : Prop := w.heap[g]? = some (.cells cs t (0, 0))
theorem Holds.lt {w : World} {g : Nat} {t : TypeId} {cs : Array Value} (h : Holds w g t cs) : g < w.heap.size := (Array.getElem?_eq_some_iff.1 h).1
theorem Holds.cell {w : World} {g : Nat} {t : TypeId} {cs : Array Value} (h : Holds w g t cs) (i : Nat) : w.cell? ⟨g, i, none⟩ = cs[i]? := cell_of_row w g i cs t (0, 0) h
theorem Holds.free {w : World} {g : Nat} {t : TypeId} {cs : Array Value} (h : Holds w g t cs) (i : Nat) : w.frozen? ⟨g, i, none⟩ = false := by
  unfold Holds at h; simp [World.frozen?, h]
theorem Holds.new (w : World) (t : TypeId) (cs : Array Value) : Holds (w.alloc (.cells cs t)) w.heap.size t cs := heap_alloc_new w _
theorem Holds.drew {w : World} {g : Nat} {t : TypeId} {cs : Array Value} (h : Holds w g t cs) : Holds w.drew g t cs := h
theorem Holds.drewN {w : World} {g : Nat} {t : TypeId} {cs : Array Value} (h : Holds w g t cs) (n : Nat) : Holds (w.drewN n) g t cs := h
theorem Holds.alloc {w : World} {g : Nat} {t : TypeId} {cs : Array Value} (h : Holds w g t cs) (o : Obj) : Holds (w.alloc o) g t cs := (Below.heap_alloc w o g h.lt).trans h
theorem Holds.set {w : World} {g : Nat} {t : TypeId} {cs : Array Value} (h : Holds w g t cs) (i : Nat) (u : Value) : Holds (w.setCell ⟨g, i, none⟩ u) g t (cs.setIfInBounds i u) := by
  unfold Holds at h ⊢; simp [World.setCell, Array.getElem?_modify, h]
theorem Holds.far {w : World} {g : Nat} {t : TypeId} {cs : Array Value} (h : Holds w g t cs) {p : Addr} (hp : g ≠ p.block) (u : Value) : Holds (w.setCell p u) g t cs := (Below.heap_setCell w p u g hp).trans h
theorem Holds.below {w w' : World} {B g : Nat} {t : TypeId} {cs : Array Value} (h : Holds w g t cs) (hb : Below B w w') (hg : g < B) : Holds w' g t cs := (hb.block g hg).trans h
theorem Holds.belowE {w w' : World} {X : List Nat} {B g : Nat} {t : TypeId} {cs : Array Value} (h : Holds w g t cs) (hb : BelowE X B w w') (hg : g < B) (hx : g ∉ X) : Holds w' g t cs := (hb.block g hg hx).trans h
def SeesE (X : List Nat) (k : IntKind) (B : Nat) (w : World) (a : Option Addr) (l : List Int) : Prop :=
  l = [] ∨ ∃ b off, a = some ⟨b, off, none⟩ ∧ b < B ∧ b ∉ X ∧ ∀ i, i < l.length → w.cell? ⟨b, off + i, none⟩ = some (.int k (l.getD i 0))
theorem SeesE.sees {X k B w a l} (h : SeesE X k B w a l) : Sees k B w a l := by
  rcases h with h | ⟨b, off, h1, h2, _, h3⟩
  · exact .inl h
  · exact .inr ⟨b, off, h1, h2, h3⟩
theorem Sees.out {X k B w a l} (h : Sees k B w a l) (hx : ∀ x ∈ X, B ≤ x) : SeesE X k B w a l := by
  rcases h with h | ⟨b, off, h1, h2, h3⟩
  · exact .inl h
  · exact .inr ⟨b, off, h1, h2, fun hm => by have := hx b hm; omega, h3⟩
theorem SeesE.belowE {X k B w w' a l} (h : SeesE X k B w a l) (hb : BelowE X B w w') : SeesE X k B w' a l := by
  rcases h with h | ⟨b, off, rfl, hB, hx, hc⟩
  · exact .inl h
  · exact .inr ⟨b, off, rfl, hB, hx, fun i hi => (hb.cell (p := ⟨b, off + i, none⟩) hB hx).trans (hc i hi)⟩
theorem SeesE.mono {X k B B' w a l} (h : SeesE X k B w a l) (hb : B ≤ B') : SeesE X k B' w a l := by
  rcases h with h | ⟨b, off, rfl, hB, hx⟩
  · exact .inl h
  · exact .inr ⟨b, off, rfl, by omega, hx⟩
theorem Sees.drewN {k B w a l} (h : Sees k B w a l) (n : Nat) : Sees k B (w.drewN n) a l := h
theorem SeesE.drewN {X k B w a l} (h : SeesE X k B w a l) (n : Nat) : SeesE X k B (w.drewN n) a l := h
theorem Below.drewN {B : Nat} {a w : World} (h : Below B a w) (n : Nat) : Below B a (w.drewN n) := ⟨h.os, h.tape, h.output, h.size, h.block⟩
theorem SeesE.cut {X : List Nat} {k : IntKind} {B : Nat} {w : World} {a : Option Addr} {l : List Int} (h : SeesE X k B w a l) (lo hi cap : Nat) (hl : hi ≤ l.length) (hlo : lo ≤ hi) (hc : l.length ≤ cap) :
    ∃ a', sliced a lo hi cap 1 = .slice a' (hi - lo) (cap - lo) ∧ SeesE X k B w a' ((l.take hi).drop lo) := by
  unfold sliced
  refine ⟨_, rfl, ?_⟩
  by_cases h0 : lo = hi
  · left; subst h0; exact List.drop_of_length_le (by simp; omega)
  rcases h with rfl | ⟨b, off, rfl, hB, hX, hcell⟩
  · simp at hl; omega
  · right
    have h1 : ¬ (cap = lo) := by omega
    by_cases hz : lo = 0
    · subst hz
      refine ⟨b, off, by simp [Addr.add], hB, hX, fun i hi' => ?_⟩
      simp at hi'
      rw [hcell i (by omega)]
      have : i < hi := by omega
      simp [List.getD, this]
    · refine ⟨b, off + lo, by simp [Addr.add, h1, hz], hB, hX, fun i hi' => ?_⟩
      simp at hi'
      rw [Nat.add_assoc, hcell (lo + i) (by omega)]
      have : lo + i < hi := by omega
      simp [List.getD, this]
theorem Sees.cut {k : IntKind} {B : Nat} {w : World} {a : Option Addr} {l : List Int} (h : Sees k B w a l) (lo hi cap : Nat) (hl : hi ≤ l.length) (hlo : lo ≤ hi) (hc : l.length ≤ cap) :
    ∃ a', sliced a lo hi cap 1 = .slice a' (hi - lo) (cap - lo) ∧ Sees k B w a' ((l.take hi).drop lo) := by
  obtain ⟨a', h1, h2⟩ := (h.out (X := []) (by simp)).cut lo hi cap hl hlo hc
  exact ⟨a', h1, h2.sees⟩
end Go.Proofs.YtknnjkhocbpohaaDoor
namespace Go.Proofs.YtknnjkhocbpohaaDoor
open Go.RowKit
set_option linter.unusedVariables false
def codes (s : ByteArray) : List Int := s.data.toList.map fun b => (b.toNat : Int)
theorem codes_length (s : ByteArray) : (codes s).length = s.size := by
  unfold codes; rw [List.length_map, Array.length_toList]; rfl
theorem codes_bs (s : ByteArray) : Bs (codes s) := by
  intro x hx
  obtain ⟨b, _, rfl⟩ := List.mem_map.1 hx
  have := b.toNat_lt
  omega
theorem codes_at (s : ByteArray) (k : Nat) (h : k < s.size) : (codes s).getD k 0 = ((s[k]'h).toNat : Int) := by
  have h2 : k < s.data.toList.length := by rw [Array.length_toList]; exact h
  simp only [codes, List.getD, List.getElem?_map, List.getElem?_eq_getElem h2, Option.map_some, Option.getD_some]
  rfl
end Go.Proofs.YtknnjkhocbpohaaDoor
namespace Go.Proofs.YtknnjkhocbpohaaDoor
open Go.RowKit
set_option linter.unusedVariables false
theorem BelowE.grown {X : List Nat} {B : Nat} {a w w' : World} {row : Option Nat} (h : BelowE X B a w) (hg : w.grownBy w' row) (hB : B ≤ w.heap.size) (hr : ∀ k, row = some k → k < B → k ∈ X) : BelowE X B a w' :=
  h.trans ⟨hg.os, hg.tape, hg.output, hg.size, fun k hk hx => hg.block k (by omega) (fun e => hx (hr k e.symm hk))⟩
theorem own_belowE {w w' : World} {X : List Nat} {base : Nat} {e : TypeId} {size n : Nat} {v : Value} {xs : List Value} (h : w.ownsRow base e size v n xs) (hb : BelowE X w.heap.size w w') (hx : ∀ k, v.ownBlock = some k → k ∉ X) : w'.ownsRow base e size v n xs := by
  refine ⟨h.1, ?_⟩
  rcases h.2 with h | ⟨g, cap, cur, hv, hg, hh, r⟩
  · exact .inl h
  · exact .inr ⟨g, cap, cur, hv, hg, (hb.block g (Array.getElem?_eq_some_iff.1 hh).1 (hx g (by rw [hv]; rfl))).trans hh, r⟩
theorem own_below {w w' : World} {base : Nat} {e : TypeId} {size n : Nat} {v : Value} {xs : List Value} (h : w.ownsRow base e size v n xs) (hb : Below w.heap.size w w') : w'.ownsRow base e size v n xs :=
  own_belowE h (.of hb) (X := []) (by simp)
end Go.Proofs.YtknnjkhocbpohaaDoor
namespace Go.Proofs.YtknnjkhocbpohaaDoor
open Go.RowKit
set_option linter.unusedVariables false
def SeesC (B : Nat) (w : World) (a : Option Addr) (cs : List Value) : Prop :=
  cs = [] ∨ ∃ b off, a = some ⟨b, off, none⟩ ∧ b < B ∧ ∀ i u, cs[i]? = some u → w.cell? ⟨b, off + i, none⟩ = some u
theorem SeesC.below {B : Nat} {w w' : World} {a : Option Addr} {cs : List Value} (h : SeesC B w a cs) (hb : Below B w w') : SeesC B w' a cs := by
  rcases h with h | ⟨b, off, rfl, hB, hc⟩
  · exact .inl h
  · exact .inr ⟨b, off, rfl, hB, fun i u hu => (hb.cell (p := ⟨b, off + i, none⟩) hB).trans (hc i u hu)⟩
theorem SeesC.mono {B B' : Nat} {w : World} {a : Option Addr} {cs : List Value} (h : SeesC B w a cs) (hb : B ≤ B') : SeesC B' w a cs := by
  rcases h with h | ⟨b, off, rfl, hB, hc⟩
  · exact .inl h
  · exact .inr ⟨b, off, rfl, by omega, hc⟩
theorem add_at (b off i : Nat) : (⟨b, off, none⟩ : Addr).add i = ⟨b, off + i, none⟩ := by unfold Addr.add; split <;> simp_all
theorem seesC_own {w : World} {base : Nat} {e : TypeId} {size : Nat} {v : Value} {n : Nat} {cs : List Value} (h : w.ownsRow base e size v n cs) :
    ∃ a cap, v = .slice a n cap ∧ n ≤ cap ∧ cap ≤ maxLen ∧ SeesC w.heap.size w a cs := by
  rcases h.2 with ⟨rfl, h0⟩ | ⟨g, cap, cur, rfl, _, hg, hc1, hc2, _⟩
  · subst h0
    have : cs = [] := List.eq_nil_of_length_eq_zero (by have := h.1; omega)
    exact ⟨none, 0, rfl, Nat.le_refl _, by simp, .inl this⟩
  · refine ⟨_, cap, rfl, hc1, hc2, .inr ⟨g, 0, rfl, (Array.getElem?_eq_some_iff.1 hg).1, fun i u hu => ?_⟩⟩
    have := h.cells (g := g) rfl i u hu
    rw [add_at] at this
    exact this
theorem seesC_lit (w : World) (e : TypeId) (cs : Array Value) (fr : Nat × Nat := (0, 0)) : SeesC (w.alloc (.cells cs e fr)).heap.size (w.alloc (.cells cs e fr)) (some ⟨w.heap.size, 0, none⟩) cs.toList := by
  refine .inr ⟨w.heap.size, 0, rfl, by simp, fun i u hu => ?_⟩
  rw [cell_of_row _ _ _ _ _ _ (heap_alloc_new w _)]
  simpa using hu
theorem flat_at {α : Type} {f : α → List Value} {k : Nat} (hk : ∀ x, (f x).length = k) : ∀ (l : List α) (i j : Nat), j < k → (l.flatMap f)[i * k + j]? = (l[i]?).bind fun x => (f x)[j]?
  | [], i, j, _ => by simp
  | x :: l, 0, j, hj => by simp [List.getElem?_append, hk, hj]
  | x :: l, i + 1, j, hj => by
    have ih := flat_at hk l i j hj
    rw [List.flatMap_cons, List.getElem?_append_right (by rw [hk, Nat.succ_mul]; omega), hk, show (i + 1) * k + j - k = i * k + j by rw [Nat.succ_mul]; omega, ih]
    simp
theorem flat_len {α : Type} {f : α → List Value} {k : Nat} (hk : ∀ x, (f x).length = k) : ∀ (l : List α), (l.flatMap f).length = l.length * k
  | [] => by simp
  | x :: l => by rw [List.flatMap_cons, List.length_append, flat_len hk l, hk, List.length_cons, Nat.succ_mul]; omega
theorem run_append_cellsB {P : Program} (w : World) (base : Nat) (t ty e : TypeId) (i : TypeInfo) (z : Value) (size bytes : Nat) (ht : P.underlying t = some (.slice e)) (hi : P.info? e = some i) (hz : i.zero = some z)
    (hsize : i.size = size) (hby : i.bytes = bytes) (hzs : z.cells.size = size) (hsz : 0 < size)
    (v : Value) (n : Nat) (xs : List Value) (hown : w.ownsRow base e size v n xs) (B : Nat) (A : Option Addr) (m c : Nat) (news : List Value) (hl : news.length = m * size) (hs : SeesC B w A news) (h1 : ∀ u ∈ news, u.oneCell' = true)
    (hn : n + m ≤ maxLen) (hby2 : (n + m) * bytes ≤ 140737488355328) (hbase : base ≤ w.heap.size) :
    ∃ v' w', (Builtin.append_ #[t, t] ty #[v, .slice A m c]).run P w = .ok v' w' ∧ w'.ownsRow base e size v' (n + m) (xs ++ news) ∧ w.grownBy w' v.ownBlock ∧ (v'.ownBlock = v.ownBlock ∨ v'.ownBlock = some w.heap.size) := by
  cases A with
  | none =>
    have hnews : news = [] := by
      rcases hs with h | ⟨b, off, h, _⟩
      · exact h
      · cases h
    subst hnews
    have hm : m = 0 := by
      cases m with
      | zero => rfl
      | succ m => rw [Nat.succ_mul] at hl; simp at hl; omega
    subst hm
    exact ⟨v, w, run_append_none w base t ty e i size ht hi v n xs hown c, by simpa using hown, World.grownBy.refl w _, .inl rfl⟩
  | some ad =>
    have hc : ∀ j u, news[j]? = some u → w.cell? (ad.add j) = some u := by
      rcases hs with rfl | ⟨b, off, h, _, hc⟩
      · intro j u hj; simp at hj
      · injection h with h; subst h; intro j u hj; rw [add_at]; exact hc j u hj
    obtain ⟨v', w', hrun, h2, h3, _, h5⟩ := run_append_own_at (P := P) w base t ty e i z size bytes ht hi hz hsize hby hzs hsz v n xs hown ad m c news hl hc h1 hn hby2 hbase
    exact ⟨v', w', hrun, h2, h3, h5⟩
theorem wpList_append_cellsB {P : Program} (w : World) {ops : Array Oper} {rest : List Oper} {o : Oper} {a : Act} {Q : Exit → Act → World → Prop}
    (hg : o.guard = none) (s x : Operand) (t : TypeId) (hop : o.op = Op.call { callee := Callee.builtin Builtin.append, args := #[s, x], argTypes := #[t, t] })
    (w0 : World) (e : TypeId) (i : TypeInfo) (z : Value) (size bytes : Nat) (ht : P.underlying t = some (.slice e)) (hi : P.info? e = some i) (hz : i.zero = some z)
    (hsize : i.size = size) (hby : i.bytes = bytes) (hzs : z.cells.size = size) (hsz : 0 < size)
    (v : Value) (n : Nat) (xs : List Value) (hown : w.ownsRow w0.heap.size e size v n xs) (hb : Below w0.heap.size w0 w) (B : Nat) (A : Option Addr) (m c : Nat) (news : List Value) (hl : news.length = m * size) (hs : SeesC B w A news) (h1 : ∀ u ∈ news, u.oneCell' = true)
    (hsv : a.eval s = v) (hx : a.eval x = .slice A m c) (hn : n + m ≤ maxLen) (hby2 : (n + m) * bytes ≤ 140737488355328)
    (hK : ∀ v' w', w'.ownsRow w0.heap.size e size v' (n + m) (xs ++ news) → Below w0.heap.size w0 w' → wpList P ops Q rest (a.put o.dst v') w') :
    wpList P ops Q (o :: rest) a w := by
  obtain ⟨v', w', hrun, g1, g2, g3⟩ := run_append_cellsB (P := P) w w0.heap.size t o.type e i z size bytes ht hi hz hsize hby hzs hsz v n xs hown B A m c news hl hs h1 hn hby2 hb.size
  refine wpList_plain hg fun K hK' => ?_
  unfold Oper.wp
  simp [execOp, hop, resolve, invoke, builtin, hsv, hx, hrun, Result.andThen]
  exact hK' _ _ (hK v' w' g1 (hb.grown g2 hb.size fun k hk => (hown.lt k hk).1))
theorem own_cells (w : World) (e : TypeId) (size n : Nat) (cs : Array Value) (hn : cs.size = n * size) (hm : n ≤ maxLen) : (w.alloc (.cells cs e)).ownsRow w.heap.size e size (.slice (some ⟨w.heap.size, 0, none⟩) n n) n cs.toList :=
  ⟨by simpa using hn, .inr ⟨w.heap.size, n, cs, rfl, Nat.le_refl _, heap_alloc_new w _, Nat.le_refl _, hm, hn, by rw [List.take_of_length_le (by simp; omega)]⟩⟩
theorem own_nil (w : World) (base : Nat) (e : TypeId) (size : Nat) : w.ownsRow base e size (.slice none 0 0) 0 [] := ⟨by simp, .inl ⟨rfl, rfl⟩⟩
end Go.Proofs.YtknnjkhocbpohaaDoor
namespace Go.Proofs.YtknnjkhocbpohaaDoor
open Go.RowKit
set_option linter.unusedVariables false
structure RO {α : Type} (f : α → List Value) (w : World) (a : Option Addr) (n c : Nat) (l : List α) : Prop where
  len : n = l.length
  cap : n ≤ c
  max : c ≤ maxLen
  sees : SeesC w.heap.size w a (l.flatMap f)
theorem RO.below {α : Type} {f : α → List Value} {w w' : World} {a : Option Addr} {n c : Nat} {l : List α} (h : RO f w a n c l) (hb : Below w.heap.size w w') : RO f w' a n c l := ⟨h.len, h.cap, h.max, (h.sees.below hb).mono hb.size⟩
theorem RO.drewN {α : Type} {f : α → List Value} {w : World} {a : Option Addr} {n c : Nat} {l : List α} (h : RO f w a n c l) (m : Nat) : RO f (w.drewN m) a n c l := ⟨h.len, h.cap, h.max, h.sees⟩
theorem RO.nil {α : Type} {f : α → List Value} (w : World) : RO f w none 0 0 [] := ⟨rfl, Nat.le_refl _, by simp, .inl rfl⟩
theorem RO.max' {α : Type} {f : α → List Value} {w : World} {a : Option Addr} {n c : Nat} {l : List α} (h : RO f w a n c l) : n ≤ 9223372036854775807 := by
  have h1 := h.cap
  have h2 := h.max
  unfold maxLen at h2
  omega
theorem RO.at_ {α : Type} {f : α → List Value} {k : Nat} (hk : ∀ x, (f x).length = k) (h0 : 0 < k) {w : World} {a : Option Addr} {n c : Nat} {l : List α} (h : RO f w a n c l) (d : α) {i : Nat} (hi : i < n) :
    ∃ b off, a = some ⟨b, off, none⟩ ∧ b < w.heap.size ∧ ∀ j, j < k → w.cell? ⟨b, off + (i * k + j), none⟩ = (f (l.getD i d))[j]? := by
  have hl : i < l.length := by rw [← h.len]; exact hi
  rcases h.sees with e | ⟨b, off, rfl, hB, hc⟩
  · have h1 := congrArg List.length e
    rw [flat_len hk] at h1
    have h2 : 0 < l.length * k := Nat.mul_pos (by omega) h0
    simp at h1
    have : l.length * k = 0 := by simp [h1]
    omega
  · refine ⟨b, off, rfl, hB, fun j hj => ?_⟩
    have h1 : (l.flatMap f)[i * k + j]? = (f (l.getD i d))[j]? := by
      rw [flat_at hk l i j hj]
      simp [List.getD, hl]
    have h2 : j < (f (l.getD i d)).length := by rw [hk]; exact hj
    rw [List.getElem?_eq_getElem h2] at h1 ⊢
    exact hc _ _ h1
end Go.Proofs.YtknnjkhocbpohaaDoor
namespace Go.Proofs.YtknnjkhocbpohaaDoor
open Go.RowKit
set_option linter.unusedVariables false
theorem drop_cons {l : List Int} {k : Nat} (hk : k < l.length) : l.drop k = l.getD k 0 :: l.drop (k + 1) := by
  rw [List.drop_eq_getElem_cons hk]; simp [List.getD, hk]
end Go.Proofs.YtknnjkhocbpohaaDoor
namespace Go.Proofs.YtknnjkhocbpohaaDoor
open Go.RowKit
set_option linter.unusedVariables false
def hexV (c : Int) : Int := if 48 ≤ c ∧ c ≤ 57 then c - 48 else if 97 ≤ c ∧ c ≤ 102 then c - 87 else -1
def pl (t : Int) : List Int → Int
  | [] => t
  | c :: r => if hexV c < 0 then -1 else pl (16 * t + hexV c) r
theorem pl_bad {t c : Int} {r : List Int} (h : hexV c < 0) : pl t (c :: r) = -1 := by unfold pl; exact if_pos h
theorem pl_next {t c : Int} {r : List Int} (h : ¬ hexV c < 0) : pl t (c :: r) = pl (16 * t + hexV c) r := by rw [pl, if_neg h]
theorem hexV_lt (c : Int) : hexV c ≤ 15 := by unfold hexV; split <;> (try split) <;> omega
def digitsV : ByteArray := ⟨#[48, 49, 50, 51, 52, 53, 54, 55, 56, 57, 97, 98, 99, 100, 101, 102]⟩
theorem digit_at (c : Int) (h0 : 0 ≤ c) (h1 : c ≤ 255) : Lib.indexByte digitsV.data.toList c.toNat.toUInt8 = hexV c := by
  have : ∀ x : Fin 256, Lib.indexByte digitsV.data.toList (x.val : Int).toNat.toUInt8 = hexV (x.val : Int) := by decide +kernel
  have h2 := this ⟨c.toNat, by omega⟩
  simp only [] at h2
  rw [show ((c.toNat : Nat) : Int) = c by omega] at h2
  exact h2
theorem index_any (c : Int) (h0 : 0 ≤ c) (h1 : c ≤ 255) (w : World) : Calls Tryd.prog 38 #[.string digitsV, .int .u8 c] w fun e w' => e = .returned (.int .i64 (hexV c)) ∧ w = w' := by
  have hx : ∀ w, (callFunc 42 #[.string digitsV, .int .u8 c]).run Tryd.prog w = .ok (.value (.int .i64 (hexV c))) w := fun w => by
    rw [run_callFunc_extern Tryd.func42 (by kernel_rfl) (by kernel_rfl) (by kernel_rfl) (e := Extern.BytealgIndexByte.indexByte) (by kernel_rfl), Lib.run_indexByteString, digit_at c h0 h1]
    rfl
  generalize digitsV = D at *
  generalize hexV c = v at *
  go_enter Tryd.func38, Tryd.ntmps38
  go_wp2
  go_ret
  exact ⟨rfl, rfl⟩
def parsed (s : ByteArray) : Int × Int := if (codes s).length = 16 ∧ 0 ≤ pl 0 (codes s) then (pl 0 (codes s), 0) else (0, 190)
theorem parsed_ok {s : ByteArray} (h : s.size = 16) (h2 : 0 ≤ pl 0 (codes s)) : parsed s = (pl 0 (codes s), 0) := by unfold parsed; rw [if_pos ⟨by rw [codes_length]; exact h, h2⟩]
theorem parsed_no {s : ByteArray} (h2 : pl 0 (codes s) = -1) : parsed s = (0, 190) := by unfold parsed; rw [if_neg (by omega)]
theorem parsed_len {s : ByteArray} (h : ¬ s.size = 16) : parsed s = (0, 190) := by unfold parsed; rw [if_neg (by rw [codes_length]; omega)]
theorem shl_or {t d : Int} (h0 : 0 ≤ t) (h1 : 16 * t + 15 ≤ 18446744073709551615) (hd0 : 0 ≤ d) (hd1 : d ≤ 15) : bits .or .u64 (t * 16) d = 16 * t + d := by
  obtain ⟨a, rfl⟩ := Int.eq_ofNat_of_zero_le h0
  obtain ⟨b, rfl⟩ := Int.eq_ofNat_of_zero_le hd0
  rw [show ((a : Int) * 16) = ((2 ^ 4 * a : Nat) : Int) by push_cast; omega, bits_or_u64_nat _ _ (by omega) (by omega)]
  have := Nat.two_pow_add_eq_or_of_lt (i := 4) (b := b) (by omega) a
  rw [← this]; push_cast; omega
theorem pow16 {k : Nat} {t : Int} (hk : k < 16) (h : t < 16 ^ k) : 16 * t + 15 ≤ 18446744073709551615 ∧ t * 16 ≤ 18446744073709551615 := by
  have h1 : (16 : Int) ^ k ≤ 16 ^ 15 := by
    obtain ⟨m, hm⟩ : ∃ m, k + m = 15 := ⟨15 - k, by omega⟩
    rw [← hm, Int.pow_add]
    have : (0 : Int) < 16 ^ m := Int.pow_pos (by omega)
    have h0 : (0 : Int) ≤ 16 ^ k := Int.pow_nonneg (by omega)
    have := Int.mul_le_mul_of_nonneg_left (show (1 : Int) ≤ 16 ^ m by omega) h0
    omega
  have e : (16 : Int) ^ 15 = 1152921504606846976 := by decide
  omega
set_option maxHeartbeats 800000 in
theorem parse_any (s : ByteArray) (w : World) (hm : s.size ≤ maxLen) : Calls Tryd.prog 35 #[.string s] w fun e w' => e = .returned (.tuple #[.int .u64 (parsed s).1, .int .i64 (parsed s).2]) ∧ w = w' := by
  unfold maxLen at hm
  by_cases hs : s.size = 16
  · have hlen := codes_length s
    have hbs := codes_bs s
    have hat := codes_at s
    have hok := parsed_ok hs
    have hno := parsed_no (s := s)
    generalize hL : codes s = L at *
    rw [hs] at hlen
    generalize hP : parsed s = p at *
    have hok' := Lib.hid hok
    have hno' := Lib.hid hno
    have hlen' := Lib.hid hlen
    have hat' := Lib.hid hat
    have hs' := Lib.hid hs
    have hsl : 16 ≤ s.size := by omega
    have hsl2 : ((s.size : Int) != 16) = false := by rw [hs]; rfl
    have hsl3 : (s.size : Int) ≤ 16 := by omega
    clear hL hP hok hno hlen hs hat
    go_enter Tryd.func35, Tryd.ntmps35
    go_wp2
    go_loop [4, 12] (fun x i => ∃ (k : Nat) (t : Int), k ≤ 16 ∧ 0 ≤ t ∧ Hid (t < 16 ^ k) ∧ Hid (pl 0 L = pl t (L.drop k)) ∧ x = .int .u64 t ∧ i = .int .i64 k) (fun _ i => 16 - (intOf i).toNat)
    case atStart => exact ⟨0, 0, by omega, by omega, Lib.hid (by simp), Lib.hid rfl, rfl, rfl⟩
    case round =>
      obtain ⟨k, t, hk, ht0, ht1, hp, rfl, rfl⟩ := hrel
      by_cases hlt : k < 16
      · have hks : k < s.size := by omega
        have hc := hat'.out k hks
        have hr := hbs.at (by rw [hlen'.out]; exact hlt)
        have hd : L.drop k = L.getD k 0 :: L.drop (k + 1) := drop_cons (by rw [hlen'.out]; exact hlt)
        have hpw := pow16 hlt ht1.out
        have h15 := hexV_lt (L.getD k 0)
        generalize hcc : ((s[k]'hks).toNat : Int) = c at *
        rw [hc] at hr hd h15
        have hix := fun w => index_any c hr.1 hr.2 w
        by_cases hv : hexV c < 0
        · have hfin := hno'.out (by rw [hp.out, hd, pl_bad hv])
          generalize hexV c = v at *
          have hix' := Lib.hid hix
          have hfin' := Lib.hid hfin
          clear hfin hix hd hc hpw
          go_wp2_with (go_at_call 38; refine (hix'.out _).mono ?_; rintro e w' ⟨rfl, rfl⟩)
          go_ret2
          exact ⟨by rw [hfin'.out]; rfl, rfl⟩
        · have hstep : Hid (pl 0 L = pl (16 * t + hexV c) (L.drop (k + 1))) := Lib.hid (by rw [hp.out, hd, pl_next hv])
          have hv0 : 0 ≤ hexV c := by omega
          have ht2 : Hid (16 * t + hexV c < 16 ^ (k + 1)) := Lib.hid (by
            have := ht1.out
            rw [Int.pow_succ]; omega)
          have e1 := shl_or ht0 hpw.1 hv0 h15
          have b1 := hpw.2
          generalize hexV c = v at *
          have hix' := Lib.hid hix
          clear hix hd hc hpw hv
          go_wp2_with (go_at_call 38; refine (hix'.out _).mono ?_; rintro e w' ⟨rfl, rfl⟩)
          go_round
          case rel => exact ⟨k + 1, 16 * t + v, by omega, by omega, ht2, hstep, rfl, by go_num⟩
          case measure => simp [intOf]; omega
      · have hfin := hok'.out (by rw [hp.out, List.drop_of_length_le (by rw [hlen'.out]; omega)]; exact ht0)
        rw [hp.out, List.drop_of_length_le (by rw [hlen'.out]; omega)] at hfin
        have hfin' := Lib.hid hfin
        clear hfin
        go_wp2
        go_ret2
        exact ⟨by rw [hfin'.out]; rfl, rfl⟩
  · have hfin := parsed_len hs
    generalize parsed s = p at *
    have hs2 : ((s.size : Int) != 16) = true := by rw [bne_iff_ne]; omega
    have hfin' := Lib.hid hfin
    clear hfin hs
    go_enter Tryd.func35, Tryd.ntmps35
    go_wp2
    go_ret2
    exact ⟨by rw [hfin'.out]; rfl, rfl⟩
end Go.Proofs.YtknnjkhocbpohaaDoor
namespace Go.Proofs.YtknnjkhocbpohaaDoor
set_option linter.unusedVariables false
set_option linter.unusedSimpArgs false
structure TmD where
  op : Int
  fld : Int
  rel : Int
  num : Int
  txt : ByteArray
deriving DecidableEq
def eB : ByteArray := ⟨#[]⟩
def tm0 : TmD := ⟨0, 0, 0, 0, eB⟩
def opT (k : Int) : TmD := ⟨k, 0, 0, 0, eB⟩
def tbyt (s : ByteArray) : List UInt8 := s.data.toList
def qtextB (s : ByteArray) : Bool := decide (s.size ≤ 128) && (tbyt s).all fun c => decide (32 ≤ c.toNat) && decide (c.toNat ≤ 126)
def qemptyB (s : ByteArray) : Bool := decide (s.size = 0)
def cmpOK (t : TmD) : Bool :=
  if t.fld = 1 ∨ t.fld = 3 then decide (t.rel = 1) && (decide (1 ≤ t.num) && (decide (t.num ≤ 3) && qemptyB t.txt))
  else if t.fld = 2 then decide (t.rel = 1) && (decide (1 ≤ t.num) && (decide (t.num ≤ 2) && qemptyB t.txt))
  else if t.fld = 4 ∨ t.fld = 5 then (decide (t.rel = 1) || (decide (t.rel = 4) || decide (t.rel = 5))) && (decide (0 ≤ t.num) && (decide (t.num ≤ 1048576) && qemptyB t.txt))
  else if 6 ≤ t.fld ∧ t.fld ≤ 9 then (decide (1 ≤ t.rel) && decide (t.rel ≤ 3)) && (decide (t.num = 0) && qtextB t.txt)
  else if t.fld = 10 then decide (t.rel = 1) && (decide (t.num = 0) && decide ((parsed t.txt).2 = 0))
  else false
def plainB (t : TmD) : Bool := decide (t.fld = 0) && (decide (t.rel = 0) && (decide (t.num = 0) && qemptyB t.txt))
def rightT (t : TmD) : Bool := if t.op = 2 then cmpOK t else (decide (1 ≤ t.op) && decide (t.op ≤ 5)) && plainB t
def arity (o : Int) : Nat := if o = 3 then 1 else if o = 4 ∨ o = 5 then 2 else 0
theorem qempty_iff {s : ByteArray} : qemptyB s = true ↔ s = eB := by
  unfold qemptyB eB
  rw [decide_eq_true_eq]
  constructor
  · intro h
    obtain ⟨⟨l⟩⟩ := s
    have h1 : l.length = 0 := h
    rw [List.length_eq_zero_iff.1 h1]
  · rintro rfl; rfl
theorem plain_iff {t : TmD} : plainB t = true ↔ t = opT t.op := by
  obtain ⟨o, f, r, n, s⟩ := t
  unfold plainB opT
  simp only [Bool.and_eq_true, decide_eq_true_eq, qempty_iff, TmD.mk.injEq, true_and]
theorem right_ops {t : TmD} (h : rightT t = true) : 1 ≤ t.op ∧ t.op ≤ 5 := by
  unfold rightT at h
  split at h
  · omega
  · simp only [Bool.and_eq_true, decide_eq_true_eq] at h; exact h.1
theorem right_opT {o : Int} (h : o = 1 ∨ o = 3 ∨ o = 4 ∨ o = 5) : rightT (opT o) = true := by
  rcases h with rfl | rfl | rfl | rfl <;> decide +kernel
theorem right_plain {t : TmD} (h : rightT t = true) (h2 : t.op ≠ 2) : t = opT t.op := by
  unfold rightT at h
  rw [if_neg h2] at h
  simp only [Bool.and_eq_true] at h
  exact plain_iff.1 h.2
def takeF : Nat → List TmD → Nat × Nat
  | 0, _ => (0, 0)
  | _ + 1, [] => (0, 0)
  | k + 1, t :: r =>
    if rightT t = true then
      if arity t.op = 0 then (1, 1)
      else if (takeF k r).1 = 0 then (0, 0)
      else if arity t.op = 1 then (1 + (takeF k r).1, (takeF k r).2 + 1)
      else if (takeF k (r.drop (takeF k r).1)).1 = 0 then (0, 0)
      else (1 + (takeF k r).1 + (takeF k (r.drop (takeF k r).1)).1, max (takeF k r).2 (takeF k (r.drop (takeF k r).1)).2 + 1)
    else (0, 0)
theorem takeF_le : ∀ (k : Nat) (l : List TmD), (takeF k l).1 ≤ l.length
  | 0, _ => by simp [takeF]
  | _ + 1, [] => by simp [takeF]
  | k + 1, t :: r => by
    have h1 := takeF_le k r
    have h2 := takeF_le k (r.drop (takeF k r).1)
    rw [List.length_drop] at h2
    simp only [takeF, List.length_cons]
    repeat' split
    all_goals (simp only []; omega)
theorem takeF_fuel : ∀ (k m : Nat) (l : List TmD), l.length ≤ k → l.length ≤ m → takeF k l = takeF m l
  | 0, 0, _, _, _ => rfl
  | 0, m + 1, [], _, _ => rfl
  | k + 1, 0, [], _, _ => rfl
  | k + 1, m + 1, [], _, _ => rfl
  | 0, _ + 1, _ :: _, h, _ => by simp at h
  | _ + 1, 0, _ :: _, _, h => by simp at h
  | k + 1, m + 1, t :: r, h1, h2 => by
    simp only [List.length_cons] at h1 h2
    have e1 := takeF_fuel k m r (by omega) (by omega)
    have e2 := takeF_fuel k m (r.drop (takeF m r).1) (by rw [List.length_drop]; omega) (by rw [List.length_drop]; omega)
    simp only [takeF, e1, e2]
def takeL (l : List TmD) : Nat × Nat := takeF l.length l
theorem takeL_le (l : List TmD) : (takeL l).1 ≤ l.length := takeF_le _ _
theorem takeL_cons (t : TmD) (r : List TmD) : takeL (t :: r) =
    if rightT t = true then
      if arity t.op = 0 then (1, 1)
      else if (takeL r).1 = 0 then (0, 0)
      else if arity t.op = 1 then (1 + (takeL r).1, (takeL r).2 + 1)
      else if (takeL (r.drop (takeL r).1)).1 = 0 then (0, 0)
      else (1 + (takeL r).1 + (takeL (r.drop (takeL r).1)).1, max (takeL r).2 (takeL (r.drop (takeL r).1)).2 + 1)
    else (0, 0) := by
  have e2 := takeF_fuel r.length (r.drop (takeL r).1).length (r.drop (takeL r).1) (by rw [List.length_drop]; omega) (Nat.le_refl _)
  unfold takeL at e2 ⊢
  simp only [List.length_cons, takeF]
  rw [e2]
inductive FT where
  | leaf (t : TmD)
  | neg (a : FT)
  | bin (o : Int) (a b : FT)
def FT.ser : FT → List TmD
  | .leaf t => [t]
  | .neg a => opT 3 :: a.ser
  | .bin o a b => opT o :: (a.ser ++ b.ser)
def FT.deep : FT → Nat
  | .leaf _ => 1
  | .neg a => a.deep + 1
  | .bin _ a b => max a.deep b.deep + 1
def FT.good : FT → Prop
  | .leaf t => rightT t = true ∧ (t.op = 1 ∨ t.op = 2)
  | .neg a => a.good
  | .bin o a b => (o = 4 ∨ o = 5) ∧ a.good ∧ b.good
theorem ser_pos (f : FT) : 1 ≤ f.ser.length := by cases f <;> simp [FT.ser]
theorem takeL_ser : ∀ (f : FT), f.good → ∀ r, takeL (f.ser ++ r) = (f.ser.length, f.deep)
  | .leaf t, h, r => by
    have h0 : arity t.op = 0 := by unfold arity; rcases h.2 with e | e <;> rw [e] <;> decide
    show takeL (t :: r) = _
    rw [takeL_cons, if_pos h.1, if_pos h0]; rfl
  | .neg a, h, r => by
    have ih := takeL_ser a h r
    have hp := ser_pos a
    show takeL (opT 3 :: (a.ser ++ r)) = _
    rw [takeL_cons, if_pos (right_opT (by omega)), ih, if_neg (show ¬ arity (opT 3).op = 0 by decide), if_neg (show ¬ (a.ser.length = 0) by omega), if_pos (show arity (opT 3).op = 1 by decide)]
    simp only [FT.ser, FT.deep, List.length_cons, Prod.mk.injEq, and_true]
    omega
  | .bin o a b, h, r => by
    obtain ⟨ho, ha, hb⟩ := h
    have i1 := takeL_ser a ha (b.ser ++ r)
    have i2 := takeL_ser b hb r
    have hp := ser_pos a
    have hq := ser_pos b
    have e0 : arity (opT o).op = 2 := by rcases ho with rfl | rfl <;> decide
    have hr : rightT (opT o) = true := right_opT (by omega)
    show takeL (opT o :: ((a.ser ++ b.ser) ++ r)) = _
    rw [takeL_cons, if_pos hr, List.append_assoc, i1, e0, if_neg (by decide), if_neg (show ¬ (a.ser.length = 0) by omega), if_neg (by decide), List.drop_left, i2, if_neg (show ¬ (b.ser.length = 0) by omega)]
    simp only [FT.ser, FT.deep, List.length_cons, List.length_append, Prod.mk.injEq, and_true]
    omega
theorem takeL_tree : ∀ (n : Nat) (l : List TmD), l.length ≤ n → (takeL l).1 ≠ 0 → ∃ (f : FT) (r : List TmD), f.good ∧ l = f.ser ++ r
  | 0, l, h, h2 => by
    have : l = [] := List.length_eq_zero_iff.1 (by omega)
    subst this
    exact absurd rfl h2
  | n + 1, [], h, h2 => absurd rfl h2
  | n + 1, t :: r, h, h2 => by
    simp only [List.length_cons] at h
    rw [takeL_cons] at h2
    by_cases hr : rightT t = true
    · rw [if_pos hr] at h2
      have ho := right_ops hr
      by_cases h0 : arity t.op = 0
      · refine ⟨.leaf t, r, ⟨hr, ?_⟩, rfl⟩
        unfold arity at h0
        split at h0
        · omega
        · split at h0
          · omega
          · omega
      · rw [if_neg h0] at h2
        have e2 : t = opT t.op := right_plain hr (by intro e; rw [e] at h0; exact h0 (by decide))
        by_cases h3 : (takeL r).1 = 0
        · rw [if_pos h3] at h2; exact absurd rfl h2
        · rw [if_neg h3] at h2
          obtain ⟨a, q, ga, ea⟩ := takeL_tree n r (by omega) h3
          have ta := takeL_ser a ga q
          rw [← ea] at ta
          by_cases h1 : arity t.op = 1
          · have : t.op = 3 := by
              unfold arity at h1
              split at h1
              · assumption
              · split at h1 <;> omega
            refine ⟨.neg a, q, ga, ?_⟩
            rw [e2, this, ea]
            rfl
          · rw [if_neg h1, ta] at h2
            have hop : t.op = 4 ∨ t.op = 5 := by
              unfold arity at h1 h0
              split at h1
              · omega
              · split at h1
                · assumption
                · rename_i hx hy; rw [if_neg hx, if_neg hy] at h0; omega
            have ed : r.drop a.ser.length = q := by rw [ea, List.drop_left]
            simp only [ed] at h2
            by_cases h4 : (takeL q).1 = 0
            · rw [if_pos h4] at h2; exact absurd rfl h2
            · have hq : q.length ≤ n := by rw [← ed, List.length_drop]; omega
              obtain ⟨b, s, gb, eb⟩ := takeL_tree n q hq h4
              refine ⟨.bin t.op a b, s, ⟨hop, ga, gb⟩, ?_⟩
              rw [e2, ea, eb]
              simp [FT.ser, opT]
    · rw [if_neg hr] at h2; exact absurd rfl h2
def filtE (l : List TmD) : Int := if 128 < l.length then 3 else if (takeL l).1 = 0 ∨ (takeL l).1 < l.length then 320 else if 32 < (takeL l).2 then 3 else 0
theorem filtE_tree {l : List TmD} (h : filtE l = 0) : ∃ f : FT, f.good ∧ l = f.ser ∧ f.deep ≤ 32 ∧ l.length ≤ 128 := by
  unfold filtE at h
  by_cases h1 : 128 < l.length
  · rw [if_pos h1] at h; omega
  rw [if_neg h1] at h
  by_cases h2 : (takeL l).1 = 0 ∨ (takeL l).1 < l.length
  · rw [if_pos h2] at h; omega
  rw [if_neg h2] at h
  by_cases h3 : 32 < (takeL l).2
  · rw [if_pos h3] at h; omega
  obtain ⟨f, r, hf, he⟩ := takeL_tree l.length l (Nat.le_refl _) (by omega)
  have ht := takeL_ser f hf r
  rw [← he] at ht
  have hr : r = [] := by
    apply List.length_eq_zero_iff.1
    have := congrArg List.length he
    rw [List.length_append] at this
    rw [ht] at h2
    omega
  subst hr
  rw [ht] at h3
  exact ⟨f, hf, by simpa using he, by omega, by omega⟩
theorem filtE_ser {f : FT} (hf : f.good) : filtE f.ser = if 128 < f.ser.length then 3 else if 32 < f.deep then 3 else 0 := by
  have ht := takeL_ser f hf []
  rw [List.append_nil] at ht
  have hp := ser_pos f
  unfold filtE
  rw [ht]
  split
  · rfl
  · rw [if_neg (by omega)]
def notT : Bool → FT → FT
  | false, .leaf t => .leaf t
  | true, .leaf t => .neg (.leaf t)
  | b, .neg a => notT (!b) a
  | b, .bin o a c => .bin (if b = true then 9 - o else o) (notT b a) (notT b c)
end Go.Proofs.YtknnjkhocbpohaaDoor
namespace Go.Proofs.YtknnjkhocbpohaaDoor
open Go.RowKit Go.ChangeShapes Go.WideShapes Go.Deep
set_option linter.unusedVariables false
set_option linter.unusedSimpArgs false
def tmC (t : TmD) : List Value := [.int .i64 t.op, .int .i64 t.fld, .int .i64 t.rel, .int .i64 t.num, .string t.txt]
theorem tmC_len (t : TmD) : (tmC t).length = 5 := rfl
theorem tm_at {w : World} {a : Option Addr} {n c : Nat} {l : List TmD} (h : RO tmC w a n c l) {i : Nat} (hi : i < n) :
    ∃ b off, a = some ⟨b, off, none⟩ ∧ b < w.heap.size ∧ w.cell? ⟨b, off + i * 5, none⟩ = some (.int .i64 (l.getD i tm0).op) ∧ w.cell? ⟨b, off + i * 5 + 1, none⟩ = some (.int .i64 (l.getD i tm0).fld) ∧ w.cell? ⟨b, off + i * 5 + 2, none⟩ = some (.int .i64 (l.getD i tm0).rel) ∧ w.cell? ⟨b, off + i * 5 + 3, none⟩ = some (.int .i64 (l.getD i tm0).num) ∧ w.cell? ⟨b, off + i * 5 + 4, none⟩ = some (.string (l.getD i tm0).txt) := by
  obtain ⟨b, off, h1, h2, h3⟩ := h.at_ tmC_len (by decide) tm0 hi
  exact ⟨b, off, h1, h2, h3 0 (by decide), h3 1 (by decide), h3 2 (by decide), h3 3 (by decide), h3 4 (by decide)⟩
end Go.Proofs.YtknnjkhocbpohaaDoor
namespace Go.Proofs.YtknnjkhocbpohaaDoor
open Go.RowKit
set_option linter.unusedVariables false
theorem SeesC.cut {B : Nat} {w : World} {a : Option Addr} {cs : List Value} (h : SeesC B w a cs) (size lo hi cap : Nat) (hl : hi * size ≤ cs.length) (hlo : lo ≤ hi) (hc : hi ≤ cap) (hz : 0 < size) :
    ∃ a', sliced a lo hi cap size = .slice a' (hi - lo) (cap - lo) ∧ SeesC B w a' ((cs.take (hi * size)).drop (lo * size)) ∧ (a = none → a' = none) := by
  unfold sliced
  refine ⟨_, rfl, ?_, by rintro rfl; split <;> rfl⟩
  by_cases h0 : lo = hi
  · left; subst h0; exact List.drop_of_length_le (by simp; omega)
  have hmul : lo * size < hi * size := Nat.mul_lt_mul_of_pos_right (by omega) hz
  rcases h with rfl | ⟨b, off, rfl, hB, hcell⟩
  · simp at hl; omega
  · right
    have h1 : ¬ (cap = lo) := by omega
    have key : ∀ i u, ((cs.take (hi * size)).drop (lo * size))[i]? = some u → cs[lo * size + i]? = some u := by
      intro i u hu
      rw [List.getElem?_drop] at hu
      rw [List.getElem?_take] at hu
      split at hu
      · exact hu
      · cases hu
    refine ⟨b, off + lo * size, ?_, hB, fun i u hi' => ?_⟩
    · simp only [h1, if_false]
      simp only [Option.map_some, add_at]
    · rw [Nat.add_assoc]
      exact hcell _ _ (key i u hi')
theorem ccut_l {P : Program} {t : TypeId} {size : Nat} (ht : P.underlying t = some (.slice (P.elem t))) (hs : ∀ W, (sizeOf (P.elem t)).run P W = .ok size W) (a : Option Addr) (n cap lo : Nat) {a' : Option Addr} {m c : Nat} (h : sliced a lo n cap size = .slice a' m c) (hlo : lo ≤ n) (W : World) :
    (Instr.slice t (.slice a n cap) (some (.int .i64 (lo : Int))) none none).run P W = .ok (.slice a' m c) W := by
  rw [← h, run_slice_l (P := P) (w := W) t a n cap ht .i64 lo (by omega) (by omega), hs]
  simp [Result.andThen]
theorem ccut_h {P : Program} {t : TypeId} {size : Nat} (ht : P.underlying t = some (.slice (P.elem t))) (hs : ∀ W, (sizeOf (P.elem t)).run P W = .ok size W) (a : Option Addr) (n cap hi : Nat) {a' : Option Addr} {m c : Nat} (h : sliced a 0 hi cap size = .slice a' m c) (hhi : hi ≤ cap) (W : World) :
    (Instr.slice t (.slice a n cap) none (some (.int .i64 (hi : Int))) none).run P W = .ok (.slice a' m c) W := by
  rw [← h, run_slice_h (P := P) (w := W) t a n cap ht .i64 hi (by omega) (by omega), hs]
  simp [Result.andThen]
theorem ccut_lh {P : Program} {t : TypeId} {size : Nat} (ht : P.underlying t = some (.slice (P.elem t))) (hs : ∀ W, (sizeOf (P.elem t)).run P W = .ok size W) (a : Option Addr) (n cap lo hi : Nat) {a' : Option Addr} {m c : Nat} (h : sliced a lo hi cap size = .slice a' m c) (hlo : lo ≤ hi) (hhi : hi ≤ cap) (W : World) :
    (Instr.slice t (.slice a n cap) (some (.int .i64 (lo : Int))) (some (.int .i64 (hi : Int))) none).run P W = .ok (.slice a' m c) W := by
  rw [← h, run_slice_lh (P := P) (w := W) t a n cap ht .i64 .i64 lo hi (by omega) (by omega) (by omega), hs]
  simp [Result.andThen]
theorem wp_append_cellsB {P : Program} (w : World) {o : Oper} {a : Act} {K : Act → World → Prop} {Q : Exit → Act → World → Prop}
    (s x : Operand) (t : TypeId) (hop : o.op = Op.call { callee := Callee.builtin Builtin.append, args := #[s, x], argTypes := #[t, t] })
    (base : Nat) (e : TypeId) (i : TypeInfo) (z : Value) (size bytes : Nat) (ht : P.underlying t = some (.slice e)) (hi : P.info? e = some i) (hz : i.zero = some z)
    (hsize : i.size = size) (hby : i.bytes = bytes) (hzs : z.cells.size = size) (hsz : 0 < size)
    (v : Value) (n : Nat) (xs : List Value) (hown : w.ownsRow base e size v n xs) (hb : base ≤ w.heap.size) (B : Nat) (A : Option Addr) (m c : Nat) (news : List Value) (hl : news.length = m * size) (hs : SeesC B w A news) (h1 : ∀ u ∈ news, u.oneCell' = true)
    (hsv : a.eval s = v) (hx : a.eval x = .slice A m c) (hn : n + m ≤ maxLen) (hby2 : (n + m) * bytes ≤ 140737488355328)
    (hK : ∀ v' w', w'.ownsRow base e size v' (n + m) (xs ++ news) → w.grownBy w' v.ownBlock → K (a.put o.dst v') w') : o.wp P a w K Q := by
  obtain ⟨v', w', hrun, g1, g2, g3⟩ := run_append_cellsB (P := P) w base t o.type e i z size bytes ht hi hz hsize hby hzs hsz v n xs hown B A m c news hl hs h1 hn hby2 hb
  unfold Oper.wp
  simp [execOp, hop, resolve, invoke, builtin, hsv, hx, hrun, Result.andThen]
  exact hK v' w' g1 g2
end Go.Proofs.YtknnjkhocbpohaaDoor
namespace Go.Proofs.YtknnjkhocbpohaaDoor
open Go.RowKit
set_option linter.unusedVariables false
set_option linter.unusedSimpArgs false
theorem size_tm (W : World) : (sizeOf (Tryd.prog.elem 22)).run Tryd.prog W = .ok 5 W := by kernel_rfl
theorem under_tm : Tryd.prog.underlying 22 = some (.slice (Tryd.prog.elem 22)) := by kernel_rfl
theorem flat_drop {α : Type} {f : α → List Value} {k : Nat} (hk : ∀ x, (f x).length = k) : ∀ (l : List α) (n : Nat), (l.flatMap f).drop (n * k) = (l.drop n).flatMap f
  | l, 0 => by simp
  | [], n + 1 => by simp
  | x :: l, n + 1 => by
    rw [List.flatMap_cons, List.drop_succ_cons, ← flat_drop hk l n, Nat.succ_mul, Nat.add_comm, ← List.drop_drop]
    rw [show (f x ++ List.flatMap f l).drop k = List.flatMap f l by rw [← hk x, List.drop_left]]
theorem flat_take {α : Type} {f : α → List Value} {k : Nat} (hk : ∀ x, (f x).length = k) : ∀ (l : List α) (n : Nat), (l.flatMap f).take (n * k) = (l.take n).flatMap f
  | l, 0 => by simp
  | [], n + 1 => by simp
  | x :: l, n + 1 => by
    rw [List.flatMap_cons, List.take_succ_cons, List.flatMap_cons, ← flat_take hk l n, Nat.succ_mul, Nat.add_comm, ← hk x, List.take_length_add_append, hk x]
theorem ro_cut {w : World} {a : Option Addr} {n c : Nat} {l : List TmD} (h : RO tmC w a n c l) (lo hi : Nat) (h1 : lo ≤ hi) (h2 : hi ≤ n) :
    ∃ a', sliced a lo hi c 5 = .slice a' (hi - lo) (c - lo) ∧ RO tmC w a' (hi - lo) (c - lo) ((l.take hi).drop lo) := by
  have hl := h.len
  have hc := h.cap
  have hm := h.max
  obtain ⟨a', e, hs, _⟩ := h.sees.cut 5 lo hi c (by rw [flat_len tmC_len]; exact Nat.mul_le_mul_right 5 (by omega)) h1 (by omega) (by omega)
  rw [flat_take tmC_len, flat_drop tmC_len] at hs
  exact ⟨a', e, ⟨by rw [List.length_drop, List.length_take]; omega, by omega, by omega, hs⟩⟩
theorem ro_from {w : World} {a : Option Addr} {n c : Nat} {l : List TmD} (h : RO tmC w a n c l) (lo : Nat) (h1 : lo ≤ n) :
    ∃ a', (∀ W, (Instr.slice 22 (.slice a n c) (some (.int .i64 (lo : Int))) none none).run Tryd.prog W = .ok (.slice a' (n - lo) (c - lo)) W) ∧ RO tmC w a' (n - lo) (c - lo) (l.drop lo) := by
  obtain ⟨a', e, hr⟩ := ro_cut h lo n h1 (Nat.le_refl _)
  rw [List.take_of_length_le (by rw [h.len]; exact Nat.le_refl _)] at hr
  exact ⟨a', ccut_l under_tm size_tm a n c lo e h1, hr⟩
theorem ro_mid {w : World} {a : Option Addr} {n c : Nat} {l : List TmD} (h : RO tmC w a n c l) (lo hi : Nat) (h1 : lo ≤ hi) (h2 : hi ≤ n) :
    ∃ a', (∀ W, (Instr.slice 22 (.slice a n c) (some (.int .i64 (lo : Int))) (some (.int .i64 (hi : Int))) none).run Tryd.prog W = .ok (.slice a' (hi - lo) (c - lo)) W) ∧ RO tmC w a' (hi - lo) (c - lo) ((l.take hi).drop lo) := by
  obtain ⟨a', e, hr⟩ := ro_cut h lo hi h1 h2
  exact ⟨a', ccut_lh under_tm size_tm a n c lo hi e h1 (by have := h.cap; omega), hr⟩
def stepsL (l : List TmD) : Nat → Nat × Nat
  | 0 => (1, 0)
  | i + 1 => ((stepsL l i).1 + (takeL (l.drop (stepsL l i).1)).1, max (stepsL l i).2 (takeL (l.drop (stepsL l i).1)).2)
def goodU (l : List TmD) (i : Nat) : Prop := ∀ j, j < i → (takeL (l.drop (stepsL l j).1)).1 ≠ 0
theorem goodU_next {l : List TmD} {i : Nat} (h : goodU l i) (h2 : (takeL (l.drop (stepsL l i).1)).1 ≠ 0) : goodU l (i + 1) := by
  intro j hj
  rcases Nat.lt_or_ge j i with h3 | h3
  · exact h j h3
  · have : j = i := by omega
    subst this
    exact h2
theorem steps_le (t : TmD) (r : List TmD) : ∀ i, (stepsL (t :: r) i).1 ≤ (t :: r).length
  | 0 => by simp [stepsL]
  | i + 1 => by
    have h1 := steps_le t r i
    have h2 := takeL_le ((t :: r).drop (stepsL (t :: r) i).1)
    rw [List.length_drop] at h2
    simp only [stepsL]
    omega
theorem steps_pos (l : List TmD) : ∀ i, 1 ≤ (stepsL l i).1
  | 0 => by simp [stepsL]
  | i + 1 => by have := steps_pos l i; simp only [stepsL]; omega
theorem takeF_deep : ∀ (k : Nat) (m : List TmD), (takeF k m).2 ≤ m.length
  | 0, m => by simp [takeF]
  | k + 1, [] => by simp [takeF]
  | k + 1, t :: r => by
    have h1 := takeF_deep k r
    have h2 := takeF_deep k (r.drop (takeF k r).1)
    rw [List.length_drop] at h2
    simp only [takeF, List.length_cons]
    repeat' split
    all_goals (simp only []; omega)
theorem steps_deep (t : TmD) (r : List TmD) : ∀ i, (stepsL (t :: r) i).2 + 1 ≤ (t :: r).length
  | 0 => by simp [stepsL]
  | i + 1 => by
    have ih := steps_deep t r i
    have hp := steps_pos (t :: r) i
    have hl := steps_le t r i
    have h3 : (takeL ((t :: r).drop (stepsL (t :: r) i).1)).2 + 1 ≤ (t :: r).length := by
      have := takeF_deep ((t :: r).drop (stepsL (t :: r) i).1).length ((t :: r).drop (stepsL (t :: r) i).1)
      unfold takeL
      have e : ((t :: r).drop (stepsL (t :: r) i).1).length = (t :: r).length - (stepsL (t :: r) i).1 := List.length_drop
      simp only [List.length_cons] at *
      omega
    simp only [stepsL]
    omega
theorem take_all' {t : TmD} {r : List TmD} (hr : rightT t = true) (hm : 1 ≤ arity t.op) (h : goodU (t :: r) (arity t.op)) : takeL (t :: r) = ((stepsL (t :: r) (arity t.op)).1, (stepsL (t :: r) (arity t.op)).2 + 1) := by
  have h0 : ¬ arity t.op = 0 := by omega
  have hz := h 0 (by omega)
  simp only [stepsL, List.drop_succ_cons, List.drop_zero] at hz
  rw [takeL_cons, if_pos hr, if_neg h0, if_neg hz]
  by_cases h1 : arity t.op = 1
  · rw [if_pos h1, h1]
    simp [stepsL]
  · have h2 : arity t.op = 2 := by unfold arity at h1 h0 ⊢; split <;> (try split) <;> simp_all
    rw [if_neg h1, h2]
    have h3 := h 1 (by omega)
    simp only [stepsL, List.drop_succ_cons, List.drop_zero] at h3
    rw [show 1 + (takeL r).1 = (takeL r).1 + 1 by omega, List.drop_succ_cons] at h3
    rw [if_neg h3]
    simp only [stepsL, List.drop_succ_cons, List.drop_zero]
    rw [show 1 + (takeL r).1 = (takeL r).1 + 1 by omega, List.drop_succ_cons]
    simp
theorem take_all {t : TmD} {r : List TmD} (hr : rightT t = true) (h : goodU (t :: r) (arity t.op)) : takeL (t :: r) = ((stepsL (t :: r) (arity t.op)).1, (stepsL (t :: r) (arity t.op)).2 + 1) := by
  by_cases h0 : arity t.op = 0
  · rw [takeL_cons, if_pos hr, if_pos h0, h0]
    rfl
  · exact take_all' hr (by omega) h
theorem take_none {t : TmD} {r : List TmD} {i : Nat} (hi : i < arity t.op) (h : goodU (t :: r) i) (hz : (takeL ((t :: r).drop (stepsL (t :: r) i).1)).1 = 0) : takeL (t :: r) = (0, 0) := by
  have h0 : ¬ arity t.op = 0 := by omega
  have h2 : arity t.op ≤ 2 := by unfold arity; split <;> (try split) <;> omega
  rw [takeL_cons]
  by_cases hr : rightT t = true
  · rw [if_pos hr, if_neg h0]
    by_cases e0 : (takeL r).1 = 0
    · rw [if_pos e0]
    · rw [if_neg e0]
      match i, hi, h, hz with
      | 0, _, _, hz =>
        simp only [stepsL, List.drop_succ_cons, List.drop_zero] at hz
        exact absurd hz e0
      | 1, hi, _, hz =>
        simp only [stepsL, List.drop_succ_cons, List.drop_zero] at hz
        rw [show 1 + (takeL r).1 = (takeL r).1 + 1 by omega, List.drop_succ_cons] at hz
        rw [if_neg (show ¬ arity t.op = 1 by omega), if_pos hz]
      | i + 2, hi, _, _ => omega
  · rw [if_neg hr]
end Go.Proofs.YtknnjkhocbpohaaDoor
namespace Go.Proofs.YtknnjkhocbpohaaDoor
open Go.RowKit
set_option linter.unusedVariables false
theorem box_below (w : World) (v1 : Array Value) (t1 : TypeId) : Below w.heap.size w (w.alloc (.cells v1 t1)) := (Below.refl _ _).alloc (Nat.le_refl _) _
theorem box2_below (w : World) (v1 v2 : Array Value) (t1 t2 : TypeId) : Below w.heap.size w ((w.alloc (.cells v1 t1)).alloc (.cells v2 t2)) := ((Below.refl _ _).alloc (Nat.le_refl _) _).alloc (by simp) _
structure SL (w : World) (a : Option Addr) (m c : Nat) (l : List Int) : Prop where
  len : m = l.length
  cap : m ≤ c
  max : m ≤ 9223372036854775807
  sees : Sees .i64 w.heap.size w a l
theorem SL.below {w w' : World} {a : Option Addr} {m c : Nat} {l : List Int} (h : SL w a m c l) (hb : Below w.heap.size w w') : SL w' a m c l := ⟨h.len, h.cap, h.max, (h.sees.below hb).mono hb.size⟩
theorem SL.drewN {w : World} {a : Option Addr} {m c : Nat} {l : List Int} (h : SL w a m c l) (n : Nat) : SL (w.drewN n) a m c l := ⟨h.len, h.cap, h.max, h.sees⟩
theorem SL.nil (w : World) : SL w none 0 0 [] := ⟨rfl, Nat.le_refl _, by omega, .inl rfl⟩
def Tells (v : Value) (w : World) (e : Ending) (w' : World) : Prop := e = .returned v ∧ w = w'
end Go.Proofs.YtknnjkhocbpohaaDoor
namespace Go.Proofs.YtknnjkhocbpohaaDoor
open Go.RowKit
set_option linter.unusedVariables false
set_option linter.unusedSimpArgs false
theorem infoTm : (Tryd.prog.info? 38).map (fun i => (i.zero.map fun z => z.cells.size, i.size, i.bytes)) = some (some 5, 5, 48) := by kernel_rfl
theorem infoTmZ : ∃ i z, Tryd.prog.info? 38 = some i ∧ i.zero = some z ∧ i.size = 5 ∧ i.bytes = 48 ∧ z.cells.size = 5 := by
  have h := infoTm
  cases hi : Tryd.prog.info? 38 with
  | none => rw [hi] at h; simp at h
  | some i =>
    rw [hi] at h
    simp at h
    obtain ⟨⟨z, hz, h1⟩, h2, h3⟩ := h
    exact ⟨i, z, rfl, hz, h2, h3, h1⟩
def tmcells (l : List TmD) : List Value := l.flatMap tmC
theorem tmcells_snoc (l : List TmD) (x : TmD) : tmcells (l ++ [x]) = tmcells l ++ tmC x := by simp [tmcells]
theorem tmcells_one {l : List TmD} {u : Value} (h : u ∈ tmcells l) : u.oneCell' = true := by
  obtain ⟨a, _, ha⟩ := List.mem_flatMap.1 h
  simp [tmC] at ha
  rcases ha with rfl | rfl | rfl | rfl | rfl <;> rfl
theorem tro_own {w : World} {base : Nat} {e : TypeId} {v : Value} {n : Nat} {l : List TmD} (h : w.ownsRow base e 5 v n (tmcells l)) : ∃ a c, v = .slice a n c ∧ RO tmC w a n c l := by
  have hl := h.1
  have h2 := flat_len tmC_len l
  unfold tmcells at hl
  obtain ⟨a, c, rfl, h3, h4, h5⟩ := seesC_own h
  exact ⟨a, c, rfl, ⟨by omega, h3, h4, h5⟩⟩
theorem tmcells_app (A B : List TmD) : tmcells (A ++ B) = tmcells A ++ tmcells B := by simp [tmcells]
theorem tmcells_len (L : List TmD) : (tmcells L).length = L.length * 5 := flat_len tmC_len L
theorem own_tm_nil (w : World) (base : Nat) : w.ownsRow base 38 5 (.slice none 0 0) 0 (tmcells []) := ⟨by simp [tmcells], .inl ⟨rfl, rfl⟩⟩
end Go.Proofs.YtknnjkhocbpohaaDoor
namespace Go.Proofs.YtknnjkhocbpohaaDoor
open Go.RowKit
set_option linter.unusedVariables false
set_option linter.unusedSimpArgs false
def aboutL : List Int := [0, 0, 0, 1, 2, 2]
def fieldsL : List Int := [0, 0, 0, 1, 1, 3, 1, 1, 2, 1, 1, 3, 2, 0, 1048576, 2, 0, 1048576, 3, 0, 0, 3, 0, 0, 3, 0, 0, 3, 0, 0, 4, 0, 0]
def relsL : List Bool := [false, false, false, false, false, false, false, true, false, false, false, false, false, true, false, false, true, true, false, true, true, true, false, false, false, true, false, false, false, false]
structure ATab (w : World) : Prop where
  about : ∀ i, i < 6 → w.cell? ⟨0, i, none⟩ = some (.int .i64 (aboutL.getD i 0))
  fields : ∀ i, i < 33 → w.cell? ⟨1, i, none⟩ = some (.int .i64 (fieldsL.getD i 0))
  rels : ∀ i, i < 30 → w.cell? ⟨2, i, none⟩ = some (.bool (relsL.getD i false))
theorem ATab.on {w w' : World} (h : ATab w) (hb : Below w.heap.size w w') : ATab w' :=
  ⟨fun i hi => (hb.cell (World.block_lt_of_cell? w _ (h.about i hi))).trans (h.about i hi),
   fun i hi => (hb.cell (World.block_lt_of_cell? w _ (h.fields i hi))).trans (h.fields i hi),
   fun i hi => (hb.cell (World.block_lt_of_cell? w _ (h.rels i hi))).trans (h.rels i hi)⟩
theorem ATab.drewN {w : World} (h : ATab w) (n : Nat) : ATab (w.drewN n) := ⟨h.about, h.fields, h.rels⟩
theorem ATab.onE {w w' : World} {X : List Nat} (h : ATab w) (hb : BelowE X w.heap.size w w') (hX : ∀ x ∈ X, 2 < x) : ATab w' :=
  ⟨fun i hi => (hb.cell (World.block_lt_of_cell? w _ (h.about i hi)) (fun hx => by have := hX _ hx; simp at this)).trans (h.about i hi),
   fun i hi => (hb.cell (World.block_lt_of_cell? w _ (h.fields i hi)) (fun hx => by have := hX _ hx; simp at this)).trans (h.fields i hi),
   fun i hi => (hb.cell (World.block_lt_of_cell? w _ (h.rels i hi)) (fun hx => by have := hX _ hx; simp at this)).trans (h.rels i hi)⟩
theorem ATab.size {w : World} (h : ATab w) : 3 ≤ w.heap.size := World.block_lt_of_cell? w _ (h.rels 0 (by omega))
def fW (f : Int) : Int := fieldsL.getD (f.toNat * 3) 0
def fLo (f : Int) : Int := fieldsL.getD (f.toNat * 3 + 1) 0
def fHi (f : Int) : Int := fieldsL.getD (f.toNat * 3 + 2) 0
def fRel (f r : Int) : Bool := relsL.getD ((fW f).toNat * 6 + r.toNat) false
def fEnd (t : TmD) : Bool := if fW t.fld = 3 then qtextB t.txt else if fW t.fld = 4 then decide ((parsed t.txt).2 = 0) else qemptyB t.txt
theorem cmp_by (t : TmD) (h1 : 1 ≤ t.fld) (h2 : t.fld ≤ 10) (h3 : 1 ≤ t.rel) (h4 : t.rel ≤ 5) :
    cmpOK t = (fRel t.fld t.rel && (decide (fLo t.fld ≤ t.num) && (decide (t.num ≤ fHi t.fld) && fEnd t))) := by
  obtain ⟨o, f, r, n, s⟩ := t
  simp only at h1 h2 h3 h4 ⊢
  unfold cmpOK fEnd
  simp only
  generalize qtextB s = b1
  generalize qemptyB s = b2
  generalize decide ((parsed s).2 = 0) = b3
  have hf : f = 1 ∨ f = 2 ∨ f = 3 ∨ f = 4 ∨ f = 5 ∨ f = 6 ∨ f = 7 ∨ f = 8 ∨ f = 9 ∨ f = 10 := by omega
  have hr : r = 1 ∨ r = 2 ∨ r = 3 ∨ r = 4 ∨ r = 5 := by omega
  have e0 : decide (n = 0) = (decide (0 ≤ n) && decide (n ≤ 0)) := by
    rw [Bool.eq_iff_iff]; simp; omega
  rw [e0]
  rcases hf with rfl | rfl | rfl | rfl | rfl | rfl | rfl | rfl | rfl | rfl <;> rcases hr with rfl | rfl | rfl | rfl | rfl <;>
    simp [fW, fLo, fHi, fRel, fieldsL, relsL, Bool.and_assoc]
theorem cmp_no (t : TmD) (h : ¬ (1 ≤ t.fld ∧ t.fld ≤ 10 ∧ 1 ≤ t.rel ∧ t.rel ≤ 5)) : cmpOK t = false := by
  unfold cmpOK
  repeat' split
  all_goals first | rfl | skip
  all_goals simp only [Bool.and_eq_false_iff, Bool.or_eq_false_iff, decide_eq_false_iff_not]
  all_goals first | (left; omega) | (left; exact ⟨by omega, by omega, by omega⟩) | omega
theorem fW_range (f : Int) (h1 : 1 ≤ f) (h2 : f ≤ 10) : 1 ≤ fW f ∧ fW f ≤ 4 := by
  have hf : f = 1 ∨ f = 2 ∨ f = 3 ∨ f = 4 ∨ f = 5 ∨ f = 6 ∨ f = 7 ∨ f = 8 ∨ f = 9 ∨ f = 10 := by omega
  rcases hf with rfl | rfl | rfl | rfl | rfl | rfl | rfl | rfl | rfl | rfl <;> decide
theorem about_is (o : Int) (h1 : 1 ≤ o) (h2 : o ≤ 5) : aboutL.getD o.toNat 0 = (arity o : Int) := by
  have hf : o = 1 ∨ o = 2 ∨ o = 3 ∨ o = 4 ∨ o = 5 := by omega
  rcases hf with rfl | rfl | rfl | rfl | rfl <;> decide
end Go.Proofs.YtknnjkhocbpohaaDoor
namespace Go.Proofs.YtknnjkhocbpohaaDoor
open Go.RowKit
set_option linter.unusedVariables false
set_option linter.unusedSimpArgs false
theorem tmtl_iff (s t : ByteArray) : s.toList = t.toList ↔ s = t := by
  rw [ByteArray.toList_eq, ByteArray.toList_eq]
  exact ⟨fun h => ByteArray.ext (Array.toList_inj.1 h), fun h => by rw [h]⟩
theorem tm_all (a b : TmD) : a = b ↔ a.op = b.op ∧ a.fld = b.fld ∧ a.rel = b.rel ∧ a.num = b.num ∧ a.txt = b.txt := by
  cases a; cases b; simp
theorem tm_cmp (a b : TmD) {α : Type} (f : Bool → α) (q : Bool) (h : q = true ↔ a = b) : (if a.op = b.op then (if a.fld = b.fld then (if a.rel = b.rel then (if a.num = b.num then (if a.txt.toList = b.txt.toList then f true else f false) else f false) else f false) else f false) else f false) = f q := by
  rw [tm_all] at h
  simp only [tmtl_iff]
  cases q
  · have h' : ¬ (a.op = b.op ∧ a.fld = b.fld ∧ a.rel = b.rel ∧ a.num = b.num ∧ a.txt = b.txt) := fun x => by have := h.2 x; cases this
    repeat' split
    all_goals first | rfl | (exfalso; apply h'; exact ⟨by assumption, by assumption, by assumption, by assumption, by assumption⟩)
  · obtain ⟨h1, h2, h3, h4, h5⟩ := h.1 rfl
    rw [if_pos h1, if_pos h2, if_pos h3, if_pos h4, if_pos h5]
theorem tm_cmp' (a b : TmD) {α : Type} (f : Bool → α) (q : Bool) (h : q = true ↔ ¬ a = b) : (if a.op = b.op then (if a.fld = b.fld then (if a.rel = b.rel then (if a.num = b.num then (if a.txt.toList = b.txt.toList then f false else f true) else f true) else f true) else f true) else f true) = f q := by
  have q2 := tm_cmp a b (fun x => f (!x)) (!q) (by cases q <;> simp at h ⊢ <;> exact h)
  simpa using q2
theorem tm_eql (A B : TmD) (q : Bool) (h : q = true ↔ A = B) (W : World) : (binOp BinOp.eql 38 (.agg #[.int .i64 A.op, .int .i64 A.fld, .int .i64 A.rel, .int .i64 A.num, .string A.txt]) (.agg #[.int .i64 B.op, .int .i64 B.fld, .int .i64 B.rel, .int .i64 B.num, .string B.txt])).run Tryd.prog W = .ok (.bool q) W := by
  go_simp
  exact tm_cmp A B (fun b => Result.ok (Value.bool b) W) q h
theorem tm_plain (o f r n : Int) (s : ByteArray) (W : World) : (binOp BinOp.eql 38 (.agg #[.int .i64 o, .int .i64 f, .int .i64 r, .int .i64 n, .string s]) (.agg #[.int .i64 o, .int .i64 0, .int .i64 0, .int .i64 0, .string ⟨#[]⟩])).run Tryd.prog W = .ok (.bool (plainB ⟨o, f, r, n, s⟩)) W :=
  tm_eql ⟨o, f, r, n, s⟩ (opT o) (plainB ⟨o, f, r, n, s⟩) plain_iff W
end Go.Proofs.YtknnjkhocbpohaaDoor
namespace Go.Proofs.YtknnjkhocbpohaaDoor
open Go.RowKit
set_option linter.unusedVariables false
theorem wp_drawn_on (S : World → Prop) {P : Program} {ops : Array Oper} {Q : Exit → Act → World → Prop} {id : Nat} {a : Act} {w : World} (hm : P.follows .mixedOrders = true) (hS : S w.drew)
    (h : S w.drew → wpAnyH P .any ops Q S ops.size (Array.replicate ops.size false) a w.drew) : (Code.region id ops true).wp P Q a w :=
  wp_region_held_drew hm hS h
theorem wT {P : Program} {md : Region.Mode} {ops : Array Oper} {Q : Exit → Act → World → Prop} {S : World → Prop} (i : Nat) {d op ty pos af gd} {v : Value} {fuel : Nat} {listed : Array Bool} {a : Act} {w : World} (hi : ops[i]? = some (⟨d, op, ty, pos, af, gd⟩ : Oper))
    (hb : (Region.noSelect ops && Region.free md ops listed i && (Region.ready md ops listed).contains i && Region.wanted ⟨d, op, ty, pos, af, gd⟩ (yielded ops a.tmps)) = true)
    (hQ : ∀ c b w, Q (.panic c) (b.put d v) w → Q (.panic c) b w) (hy : ∀ w, S w → (execOp a.eval ⟨d, op, ty, pos, af, gd⟩).run P w = .ok (.value v) w) (hS : S w)
    (h : wpAnyH P md ops Q S fuel (listed.setIfInBounds i true) (a.put d v) w) : wpAnyH P md ops Q S (fuel + 1) listed a w := by
  simp only [Bool.and_eq_true] at hb
  exact wpAnyH_take hi hb.1.1.1 hb.1.1.2 hb.1.2 hQ (.inl ⟨hb.2, hy⟩) hS h
end Go.Proofs.YtknnjkhocbpohaaDoor
namespace Go.Proofs.YtknnjkhocbpohaaDoor
open Go.RowKit
set_option linter.unusedVariables false
set_option linter.unusedSimpArgs false
def DrawnT (v : Value) (w : World) (e : Ending) (w' : World) : Prop := e = .returned v ∧ ∃ m, w' = w.drewN m
theorem drawnT_gives {v : Value} {w : World} {e : Ending} {w' : World} (h : DrawnT v w e w') : Gives v w e w' := by
  obtain ⟨h1, m, rfl⟩ := h
  exact ⟨h1, Below.drewN (Below.refl _ _) m⟩
def sameT5 (l r : List TmD) : Bool := decide (l = r)
theorem sameT5_no {l r : List TmD} {k : Nat} (hk : k < l.length) (h : ¬ l.getD k tm0 = r.getD k tm0) : sameT5 l r = false := by
  unfold sameT5
  rw [decide_eq_false_iff_not]
  rintro rfl
  exact h rfl
theorem sameT5_len {l r : List TmD} (h : l.length ≠ r.length) : sameT5 l r = false := by
  unfold sameT5
  rw [decide_eq_false_iff_not]
  rintro rfl
  exact h rfl
theorem sameT5_yes {l r : List TmD} (hl : l.length = r.length) (h : ∀ t, t < l.length → l.getD t tm0 = r.getD t tm0) : sameT5 l r = true := by
  unfold sameT5
  rw [decide_eq_true_eq]
  apply List.ext_getElem hl
  intro i a b
  have q := h i a
  simpa [List.getD, a, b] using q
set_option maxRecDepth 100000 in
set_option maxHeartbeats 8000000 in
theorem tmEqual_any (a1 a2 : Option Addr) (n1 n2 c1 c2 : Nat) (l1 l2 : List TmD) (w : World) (h1 : RO tmC w a1 n1 c1 l1) (h2 : RO tmC w a2 n2 c2 l2) : Calls Tryd.prog 26 #[.slice a1 n1 c1, .slice a2 n2 c2] w (DrawnT (.bool (sameT5 l1 l2)) w) := by
  have hl1 := Lib.hid h1.len
  have hl2 := Lib.hid h2.len
  have T1 := Lib.hid h1
  have T2 := Lib.hid h2
  have hm1 := h1.max'
  have hm2 := h2.max'
  have hm1i : (n1 : Int) ≤ 9223372036854775807 := by omega
  clear h1 h2
  by_cases hne : n1 = n2
  · have e0' : ((n1 : Int) != (n2 : Int)) = false := by simp; omega
    have e0n : (n1 != n2) = false := by simpa using hne
    have hne' := Lib.hid hne
    have hno := Lib.hid (fun k hk h => sameT5_no (l := l1) (r := l2) (k := k) hk h)
    have hyes := Lib.hid (fun h => sameT5_yes (l := l1) (r := l2) (by rw [← hl1.out, ← hl2.out]; exact hne) h)
    clear hne
    generalize sameT5 l1 l2 = R at *
    go_enter Tryd.func26, Tryd.ntmps26
    go_wp2
    go_loopw [13] (fun x wr => ∃ k m : Nat, k ≤ n1 ∧ x = .int .i64 k ∧ Hid (∀ t, t < k → l1.getD t tm0 = l2.getD t tm0) ∧ wr = w.drewN m) (fun x _ => n1 - (intOf x).toNat)
    case atStart => exact ⟨0, 0, by omega, rfl, Lib.hid (fun t ht => by omega), rfl⟩
    case round =>
      obtain ⟨k, m, hk, rfl, hal, rfl⟩ := hrel
      by_cases hlt : k < n1
      · have hki : (k : Int) < (n1 : Int) := by omega
        have hk2 : k < n2 := by have := hne'.out; omega
        have hki2 : (k : Int) < (n2 : Int) := by omega
        obtain ⟨b1, o1, rfl, -, x0, x1, x2, x3, x4⟩ := tm_at T1.out hlt
        obtain ⟨b2, o2, rfl, -, y0, y1, y2, y3, y4⟩ := tm_at T2.out hk2
        have hno' := Lib.hid (hno.out k (by rw [← hl1.out]; exact hlt))
        have hyes' : Hid (l1.getD k tm0 = l2.getD k tm0 → ∀ t, t < k + 1 → l1.getD t tm0 = l2.getD t tm0) := Lib.hid (fun h t ht => by
          by_cases e : t = k
          · rw [e]; exact h
          · exact hal.out t (by omega))
        obtain ⟨⟨ak, af, ar, an, ax⟩, hs1⟩ : ∃ u, l1.getD k tm0 = (u : TmD) := ⟨_, rfl⟩
        obtain ⟨⟨bk, bf, br, bn, bx⟩, hs2⟩ : ∃ u, l2.getD k tm0 = (u : TmD) := ⟨_, rfl⟩
        rw [hs1] at x0 x1 x2 x3 x4 hno' hyes'
        rw [hs2] at y0 y1 y2 y3 y4 hno' hyes'
        dsimp only at x0 x1 x2 x3 x4 y0 y1 y2 y3 y4
        clear hs1 hs2 hal hno
        have g0 : ∀ W, (∃ j, W = w.drewN j) → W.cell? ⟨b1, o1 + k * 5, none⟩ = some (.int .i64 ak) := fun W hW => by obtain ⟨j, rfl⟩ := hW; exact x0
        have g1 : ∀ W, (∃ j, W = w.drewN j) → W.cell? ⟨b1, o1 + k * 5 + 1, none⟩ = some (.int .i64 af) := fun W hW => by obtain ⟨j, rfl⟩ := hW; exact x1
        have g2 : ∀ W, (∃ j, W = w.drewN j) → W.cell? ⟨b1, o1 + k * 5 + 2, none⟩ = some (.int .i64 ar) := fun W hW => by obtain ⟨j, rfl⟩ := hW; exact x2
        have g3 : ∀ W, (∃ j, W = w.drewN j) → W.cell? ⟨b1, o1 + k * 5 + 3, none⟩ = some (.int .i64 an) := fun W hW => by obtain ⟨j, rfl⟩ := hW; exact x3
        have g4 : ∀ W, (∃ j, W = w.drewN j) → W.cell? ⟨b1, o1 + k * 5 + 4, none⟩ = some (.string ax) := fun W hW => by obtain ⟨j, rfl⟩ := hW; exact x4
        have e0 : ∀ W, (∃ j, W = w.drewN j) → W.cell? ⟨b2, o2 + k * 5, none⟩ = some (.int .i64 bk) := fun W hW => by obtain ⟨j, rfl⟩ := hW; exact y0
        have e1 : ∀ W, (∃ j, W = w.drewN j) → W.cell? ⟨b2, o2 + k * 5 + 1, none⟩ = some (.int .i64 bf) := fun W hW => by obtain ⟨j, rfl⟩ := hW; exact y1
        have e2 : ∀ W, (∃ j, W = w.drewN j) → W.cell? ⟨b2, o2 + k * 5 + 2, none⟩ = some (.int .i64 br) := fun W hW => by obtain ⟨j, rfl⟩ := hW; exact y2
        have e3 : ∀ W, (∃ j, W = w.drewN j) → W.cell? ⟨b2, o2 + k * 5 + 3, none⟩ = some (.int .i64 bn) := fun W hW => by obtain ⟨j, rfl⟩ := hW; exact y3
        have e4 : ∀ W, (∃ j, W = w.drewN j) → W.cell? ⟨b2, o2 + k * 5 + 4, none⟩ = some (.string bx) := fun W hW => by obtain ⟨j, rfl⟩ := hW; exact y4
        clear x0 x1 x2 x3 x4 y0 y1 y2 y3 y4
        by_cases hq : (⟨ak, af, ar, an, ax⟩ : TmD) = ⟨bk, bf, br, bn, bx⟩
        · have hg := Lib.hid (hyes'.out hq)
          have haq : Hid (false = true ↔ ¬ (⟨ak, af, ar, an, ax⟩ : TmD) = ⟨bk, bf, br, bn, bx⟩) := Lib.hid (by simp only [hq, not_true_eq_false, Bool.false_eq_true])
          clear hyes' hno' hq
          go_wp2
          refine wp_drawn_on (fun W => ∃ j, W = w.drewN j) (by kernel_rfl) (⟨m + 1, rfl⟩) (fun hHeld => ?_)
          refine wT 0 (v := ?v1) rfl (by kernel_rfl) (fun _ _ _ h => h) ?h1 (by assumption) ?r1
          case h1 => (intro w hSw; (try dsimp only at hSw); go_simp; try with_reducible rfl)
          refine wT 1 (v := ?v2) rfl (by kernel_rfl) (fun _ _ _ h => h) ?h2 (by assumption) ?r2
          case h2 => (intro w hSw; (try dsimp only at hSw); go_simp; try with_reducible rfl)
          refine wT 2 (v := ?v3) rfl (by kernel_rfl) (fun _ _ _ h => h) ?h3 (by assumption) ?r3
          case h3 => (intro w hSw; (try dsimp only at hSw); go_simp; try with_reducible rfl)
          refine wT 3 (v := ?v4) rfl (by kernel_rfl) (fun _ _ _ h => h) ?h4 (by assumption) ?r4
          case h4 => (intro w hSw; (try dsimp only at hSw); go_simp; try with_reducible rfl)
          refine wT 4 (v := ?v5) rfl (by kernel_rfl) (fun _ _ _ h => h) ?h5 (by assumption) ?r5
          case h5 => (intro w hSw; (try dsimp only at hSw); go_simp; try with_reducible rfl)
          refine wT 5 (v := ?v6) rfl (by kernel_rfl) (fun _ _ _ h => h) ?h6 (by assumption) ?r6
          case h6 => (intro w hSw; (try dsimp only at hSw); go_simp; try with_reducible rfl)
          refine wT 6 (v := ?v7) rfl (by kernel_rfl) (fun _ _ _ h => h) ?h7 (by assumption) ?r7
          case h7 => (intro w hSw; (try dsimp only at hSw); go_simp; try with_reducible rfl)
          refine wT 7 (v := ?v8) rfl (by kernel_rfl) (fun _ _ _ h => h) ?h8 (by assumption) ?r8
          case h8 => (intro w hSw; (try dsimp only at hSw); go_simp; try with_reducible rfl)
          refine wT 8 (v := ?v9) rfl (by kernel_rfl) (fun _ _ _ h => h) ?h9 (by assumption) ?r9
          case h9 => (intro w hSw; (try dsimp only at hSw); refine Eq.trans (b := Result.ok (Next.value (.bool false)) w) (by go_simp; exact tm_cmp' ⟨ak, af, ar, an, ax⟩ ⟨bk, bf, br, bn, bx⟩ (fun b => Result.ok (Next.value (Value.bool b)) w) false haq.out) ?_; with_reducible rfl)
          try simp only [Act.put, List.setIfInBounds_toArray, List.set_cons_zero, List.set_cons_succ]
          refine wpAnyH_done (by kernel_rfl) ?_ _
          clear g0 e0 g1 e1 g2 e2 g3 e3 g4 e4
          go_wp2
          go_roundw
          case rel => exact ⟨k + 1, m + 1, by omega, by go_num, hg, rfl⟩
          case measure => simp [intOf]; omega
        · have hf := Lib.hid (hno'.out hq)
          obtain ⟨bq, hb⟩ : ∃ bq : Bool, Hid (bq = true) := ⟨true, Lib.hid rfl⟩
          have haq : Hid (bq = true ↔ ¬ (⟨ak, af, ar, an, ax⟩ : TmD) = ⟨bk, bf, br, bn, bx⟩) := Lib.hid ⟨fun _ => hq, fun _ => hb.out⟩
          clear hyes' hno' hq
          go_wp2
          refine wp_drawn_on (fun W => ∃ j, W = w.drewN j) (by kernel_rfl) (⟨m + 1, rfl⟩) (fun hHeld => ?_)
          refine wT 0 (v := ?v10) rfl (by kernel_rfl) (fun _ _ _ h => h) ?h10 (by assumption) ?r10
          case h10 => (intro w hSw; (try dsimp only at hSw); go_simp; try with_reducible rfl)
          refine wT 1 (v := ?v11) rfl (by kernel_rfl) (fun _ _ _ h => h) ?h11 (by assumption) ?r11
          case h11 => (intro w hSw; (try dsimp only at hSw); go_simp; try with_reducible rfl)
          refine wT 2 (v := ?v12) rfl (by kernel_rfl) (fun _ _ _ h => h) ?h12 (by assumption) ?r12
          case h12 => (intro w hSw; (try dsimp only at hSw); go_simp; try with_reducible rfl)
          refine wT 3 (v := ?v13) rfl (by kernel_rfl) (fun _ _ _ h => h) ?h13 (by assumption) ?r13
          case h13 => (intro w hSw; (try dsimp only at hSw); go_simp; try with_reducible rfl)
          refine wT 4 (v := ?v14) rfl (by kernel_rfl) (fun _ _ _ h => h) ?h14 (by assumption) ?r14
          case h14 => (intro w hSw; (try dsimp only at hSw); go_simp; try with_reducible rfl)
          refine wT 5 (v := ?v15) rfl (by kernel_rfl) (fun _ _ _ h => h) ?h15 (by assumption) ?r15
          case h15 => (intro w hSw; (try dsimp only at hSw); go_simp; try with_reducible rfl)
          refine wT 6 (v := ?v16) rfl (by kernel_rfl) (fun _ _ _ h => h) ?h16 (by assumption) ?r16
          case h16 => (intro w hSw; (try dsimp only at hSw); go_simp; try with_reducible rfl)
          refine wT 7 (v := ?v17) rfl (by kernel_rfl) (fun _ _ _ h => h) ?h17 (by assumption) ?r17
          case h17 => (intro w hSw; (try dsimp only at hSw); go_simp; try with_reducible rfl)
          refine wT 8 (v := ?v18) rfl (by kernel_rfl) (fun _ _ _ h => h) ?h18 (by assumption) ?r18
          case h18 => (intro w hSw; (try dsimp only at hSw); refine Eq.trans (b := Result.ok (Next.value (.bool bq)) w) (by go_simp; exact tm_cmp' ⟨ak, af, ar, an, ax⟩ ⟨bk, bf, br, bn, bx⟩ (fun b => Result.ok (Next.value (Value.bool b)) w) bq haq.out) ?_; with_reducible rfl)
          try simp only [Act.put, List.setIfInBounds_toArray, List.set_cons_zero, List.set_cons_succ]
          refine wpAnyH_done (by kernel_rfl) ?_ _
          clear g0 e0 g1 e1 g2 e2 g3 e3 g4 e4
          have hb2 : bq = true := hb.out
          subst hb2
          go_wp2
          go_ret
          exact ⟨ret_bool hf.out.symm, m + 1, rfl⟩
      · have hki : ¬ (k : Int) < (n1 : Int) := by omega
        have hf := Lib.hid (hyes.out (fun t ht => hal.out t (by rw [← hl1.out] at ht; omega)))
        clear hyes hno hal
        go_wp2
        go_ret
        exact ⟨ret_bool hf.out.symm, m, rfl⟩
  · have e0' : ((n1 : Int) != (n2 : Int)) = true := by simp; omega
    have e0n : (n1 != n2) = true := by simpa using hne
    have hR : Hid (sameT5 l1 l2 = false) := Lib.hid (sameT5_len (by rw [← hl1.out, ← hl2.out]; exact hne))
    clear hne
    generalize sameT5 l1 l2 = R at *
    go_enter Tryd.func26, Tryd.ntmps26
    go_wp2
    go_ret
    exact ⟨ret_bool hR.out.symm, 0, rfl⟩
set_option maxRecDepth 100000 in
set_option maxHeartbeats 8000000 in
theorem tmSame_any (a1 a2 : Option Addr) (n1 n2 c1 c2 : Nat) (l1 l2 : List TmD) (w : World) (h1 : RO tmC w a1 n1 c1 l1) (h2 : RO tmC w a2 n2 c2 l2) : Calls Tryd.prog 19 #[.slice a1 n1 c1, .slice a2 n2 c2] w (DrawnT (.bool (sameT5 l1 l2)) w) := by
  have hl1 := Lib.hid h1.len
  have hl2 := Lib.hid h2.len
  have T1 := Lib.hid h1
  have T2 := Lib.hid h2
  have hm1 := h1.max'
  have hm2 := h2.max'
  have hm1i : (n1 : Int) ≤ 9223372036854775807 := by omega
  clear h1 h2
  by_cases hne : n1 = n2
  · have e0' : ((n1 : Int) != (n2 : Int)) = false := by simp; omega
    have e0n : (n1 != n2) = false := by simpa using hne
    have hne' := Lib.hid hne
    have hno := Lib.hid (fun k hk h => sameT5_no (l := l1) (r := l2) (k := k) hk h)
    have hyes := Lib.hid (fun h => sameT5_yes (l := l1) (r := l2) (by rw [← hl1.out, ← hl2.out]; exact hne) h)
    clear hne
    generalize sameT5 l1 l2 = R at *
    go_enter Tryd.func19, Tryd.ntmps19
    go_wp2
    go_loopw [5] (fun x wr => ∃ k m : Nat, k ≤ n1 ∧ x = .int .i64 k ∧ Hid (∀ t, t < k → l1.getD t tm0 = l2.getD t tm0) ∧ wr = w.drewN m) (fun x _ => n1 - (intOf x).toNat)
    case atStart => exact ⟨0, 0, by omega, rfl, Lib.hid (fun t ht => by omega), rfl⟩
    case round =>
      obtain ⟨k, m, hk, rfl, hal, rfl⟩ := hrel
      by_cases hlt : k < n1
      · have hki : (k : Int) < (n1 : Int) := by omega
        have hk2 : k < n2 := by have := hne'.out; omega
        have hki2 : (k : Int) < (n2 : Int) := by omega
        obtain ⟨b1, o1, rfl, -, x0, x1, x2, x3, x4⟩ := tm_at T1.out hlt
        obtain ⟨b2, o2, rfl, -, y0, y1, y2, y3, y4⟩ := tm_at T2.out hk2
        have hno' := Lib.hid (hno.out k (by rw [← hl1.out]; exact hlt))
        have hyes' : Hid (l1.getD k tm0 = l2.getD k tm0 → ∀ t, t < k + 1 → l1.getD t tm0 = l2.getD t tm0) := Lib.hid (fun h t ht => by
          by_cases e : t = k
          · rw [e]; exact h
          · exact hal.out t (by omega))
        obtain ⟨⟨ak, af, ar, an, ax⟩, hs1⟩ : ∃ u, l1.getD k tm0 = (u : TmD) := ⟨_, rfl⟩
        obtain ⟨⟨bk, bf, br, bn, bx⟩, hs2⟩ : ∃ u, l2.getD k tm0 = (u : TmD) := ⟨_, rfl⟩
        rw [hs1] at x0 x1 x2 x3 x4 hno' hyes'
        rw [hs2] at y0 y1 y2 y3 y4 hno' hyes'
        dsimp only at x0 x1 x2 x3 x4 y0 y1 y2 y3 y4
        clear hs1 hs2 hal hno
        have g0 : ∀ W, (∃ j, W = w.drewN j) → W.cell? ⟨b1, o1 + k * 5, none⟩ = some (.int .i64 ak) := fun W hW => by obtain ⟨j, rfl⟩ := hW; exact x0
        have g1 : ∀ W, (∃ j, W = w.drewN j) → W.cell? ⟨b1, o1 + k * 5 + 1, none⟩ = some (.int .i64 af) := fun W hW => by obtain ⟨j, rfl⟩ := hW; exact x1
        have g2 : ∀ W, (∃ j, W = w.drewN j) → W.cell? ⟨b1, o1 + k * 5 + 2, none⟩ = some (.int .i64 ar) := fun W hW => by obtain ⟨j, rfl⟩ := hW; exact x2
        have g3 : ∀ W, (∃ j, W = w.drewN j) → W.cell? ⟨b1, o1 + k * 5 + 3, none⟩ = some (.int .i64 an) := fun W hW => by obtain ⟨j, rfl⟩ := hW; exact x3
        have g4 : ∀ W, (∃ j, W = w.drewN j) → W.cell? ⟨b1, o1 + k * 5 + 4, none⟩ = some (.string ax) := fun W hW => by obtain ⟨j, rfl⟩ := hW; exact x4
        have e0 : ∀ W, (∃ j, W = w.drewN j) → W.cell? ⟨b2, o2 + k * 5, none⟩ = some (.int .i64 bk) := fun W hW => by obtain ⟨j, rfl⟩ := hW; exact y0
        have e1 : ∀ W, (∃ j, W = w.drewN j) → W.cell? ⟨b2, o2 + k * 5 + 1, none⟩ = some (.int .i64 bf) := fun W hW => by obtain ⟨j, rfl⟩ := hW; exact y1
        have e2 : ∀ W, (∃ j, W = w.drewN j) → W.cell? ⟨b2, o2 + k * 5 + 2, none⟩ = some (.int .i64 br) := fun W hW => by obtain ⟨j, rfl⟩ := hW; exact y2
        have e3 : ∀ W, (∃ j, W = w.drewN j) → W.cell? ⟨b2, o2 + k * 5 + 3, none⟩ = some (.int .i64 bn) := fun W hW => by obtain ⟨j, rfl⟩ := hW; exact y3
        have e4 : ∀ W, (∃ j, W = w.drewN j) → W.cell? ⟨b2, o2 + k * 5 + 4, none⟩ = some (.string bx) := fun W hW => by obtain ⟨j, rfl⟩ := hW; exact y4
        clear x0 x1 x2 x3 x4 y0 y1 y2 y3 y4
        by_cases hq : (⟨ak, af, ar, an, ax⟩ : TmD) = ⟨bk, bf, br, bn, bx⟩
        · have hg := Lib.hid (hyes'.out hq)
          have haq : Hid (false = true ↔ ¬ (⟨ak, af, ar, an, ax⟩ : TmD) = ⟨bk, bf, br, bn, bx⟩) := Lib.hid (by simp only [hq, not_true_eq_false, Bool.false_eq_true])
          clear hyes' hno' hq
          go_wp2
          refine wp_drawn_on (fun W => ∃ j, W = w.drewN j) (by kernel_rfl) (⟨m + 1, rfl⟩) (fun hHeld => ?_)
          refine wT 0 (v := ?v19) rfl (by kernel_rfl) (fun _ _ _ h => h) ?h19 (by assumption) ?r19
          case h19 => (intro w hSw; (try dsimp only at hSw); go_simp; try with_reducible rfl)
          refine wT 1 (v := ?v20) rfl (by kernel_rfl) (fun _ _ _ h => h) ?h20 (by assumption) ?r20
          case h20 => (intro w hSw; (try dsimp only at hSw); go_simp; try with_reducible rfl)
          refine wT 2 (v := ?v21) rfl (by kernel_rfl) (fun _ _ _ h => h) ?h21 (by assumption) ?r21
          case h21 => (intro w hSw; (try dsimp only at hSw); go_simp; try with_reducible rfl)
          refine wT 3 (v := ?v22) rfl (by kernel_rfl) (fun _ _ _ h => h) ?h22 (by assumption) ?r22
          case h22 => (intro w hSw; (try dsimp only at hSw); go_simp; try with_reducible rfl)
          refine wT 4 (v := ?v23) rfl (by kernel_rfl) (fun _ _ _ h => h) ?h23 (by assumption) ?r23
          case h23 => (intro w hSw; (try dsimp only at hSw); go_simp; try with_reducible rfl)
          refine wT 5 (v := ?v24) rfl (by kernel_rfl) (fun _ _ _ h => h) ?h24 (by assumption) ?r24
          case h24 => (intro w hSw; (try dsimp only at hSw); go_simp; try with_reducible rfl)
          refine wT 6 (v := ?v25) rfl (by kernel_rfl) (fun _ _ _ h => h) ?h25 (by assumption) ?r25
          case h25 => (intro w hSw; (try dsimp only at hSw); go_simp; try with_reducible rfl)
          refine wT 7 (v := ?v26) rfl (by kernel_rfl) (fun _ _ _ h => h) ?h26 (by assumption) ?r26
          case h26 => (intro w hSw; (try dsimp only at hSw); go_simp; try with_reducible rfl)
          refine wT 8 (v := ?v27) rfl (by kernel_rfl) (fun _ _ _ h => h) ?h27 (by assumption) ?r27
          case h27 => (intro w hSw; (try dsimp only at hSw); refine Eq.trans (b := Result.ok (Next.value (.bool false)) w) (by go_simp; exact tm_cmp' ⟨ak, af, ar, an, ax⟩ ⟨bk, bf, br, bn, bx⟩ (fun b => Result.ok (Next.value (Value.bool b)) w) false haq.out) ?_; with_reducible rfl)
          try simp only [Act.put, List.setIfInBounds_toArray, List.set_cons_zero, List.set_cons_succ]
          refine wpAnyH_done (by kernel_rfl) ?_ _
          clear g0 e0 g1 e1 g2 e2 g3 e3 g4 e4
          go_wp2
          go_roundw
          case rel => exact ⟨k + 1, m + 1, by omega, by go_num, hg, rfl⟩
          case measure => simp [intOf]; omega
        · have hf := Lib.hid (hno'.out hq)
          obtain ⟨bq, hb⟩ : ∃ bq : Bool, Hid (bq = true) := ⟨true, Lib.hid rfl⟩
          have haq : Hid (bq = true ↔ ¬ (⟨ak, af, ar, an, ax⟩ : TmD) = ⟨bk, bf, br, bn, bx⟩) := Lib.hid ⟨fun _ => hq, fun _ => hb.out⟩
          clear hyes' hno' hq
          go_wp2
          refine wp_drawn_on (fun W => ∃ j, W = w.drewN j) (by kernel_rfl) (⟨m + 1, rfl⟩) (fun hHeld => ?_)
          refine wT 0 (v := ?v28) rfl (by kernel_rfl) (fun _ _ _ h => h) ?h28 (by assumption) ?r28
          case h28 => (intro w hSw; (try dsimp only at hSw); go_simp; try with_reducible rfl)
          refine wT 1 (v := ?v29) rfl (by kernel_rfl) (fun _ _ _ h => h) ?h29 (by assumption) ?r29
          case h29 => (intro w hSw; (try dsimp only at hSw); go_simp; try with_reducible rfl)
          refine wT 2 (v := ?v30) rfl (by kernel_rfl) (fun _ _ _ h => h) ?h30 (by assumption) ?r30
          case h30 => (intro w hSw; (try dsimp only at hSw); go_simp; try with_reducible rfl)
          refine wT 3 (v := ?v31) rfl (by kernel_rfl) (fun _ _ _ h => h) ?h31 (by assumption) ?r31
          case h31 => (intro w hSw; (try dsimp only at hSw); go_simp; try with_reducible rfl)
          refine wT 4 (v := ?v32) rfl (by kernel_rfl) (fun _ _ _ h => h) ?h32 (by assumption) ?r32
          case h32 => (intro w hSw; (try dsimp only at hSw); go_simp; try with_reducible rfl)
          refine wT 5 (v := ?v33) rfl (by kernel_rfl) (fun _ _ _ h => h) ?h33 (by assumption) ?r33
          case h33 => (intro w hSw; (try dsimp only at hSw); go_simp; try with_reducible rfl)
          refine wT 6 (v := ?v34) rfl (by kernel_rfl) (fun _ _ _ h => h) ?h34 (by assumption) ?r34
          case h34 => (intro w hSw; (try dsimp only at hSw); go_simp; try with_reducible rfl)
          refine wT 7 (v := ?v35) rfl (by kernel_rfl) (fun _ _ _ h => h) ?h35 (by assumption) ?r35
          case h35 => (intro w hSw; (try dsimp only at hSw); go_simp; try with_reducible rfl)
          refine wT 8 (v := ?v36) rfl (by kernel_rfl) (fun _ _ _ h => h) ?h36 (by assumption) ?r36
          case h36 => (intro w hSw; (try dsimp only at hSw); refine Eq.trans (b := Result.ok (Next.value (.bool bq)) w) (by go_simp; exact tm_cmp' ⟨ak, af, ar, an, ax⟩ ⟨bk, bf, br, bn, bx⟩ (fun b => Result.ok (Next.value (Value.bool b)) w) bq haq.out) ?_; with_reducible rfl)
          try simp only [Act.put, List.setIfInBounds_toArray, List.set_cons_zero, List.set_cons_succ]
          refine wpAnyH_done (by kernel_rfl) ?_ _
          clear g0 e0 g1 e1 g2 e2 g3 e3 g4 e4
          have hb2 : bq = true := hb.out
          subst hb2
          go_wp2
          go_ret
          exact ⟨ret_bool hf.out.symm, m + 1, rfl⟩
      · have hki : ¬ (k : Int) < (n1 : Int) := by omega
        have hf := Lib.hid (hyes.out (fun t ht => hal.out t (by rw [← hl1.out] at ht; omega)))
        clear hyes hno hal
        go_wp2
        go_ret
        exact ⟨ret_bool hf.out.symm, m, rfl⟩
  · have e0' : ((n1 : Int) != (n2 : Int)) = true := by simp; omega
    have e0n : (n1 != n2) = true := by simpa using hne
    have hR : Hid (sameT5 l1 l2 = false) := Lib.hid (sameT5_len (by rw [← hl1.out, ← hl2.out]; exact hne))
    clear hne
    generalize sameT5 l1 l2 = R at *
    go_enter Tryd.func19, Tryd.ntmps19
    go_wp2
    go_ret
    exact ⟨ret_bool hR.out.symm, 0, rfl⟩
end Go.Proofs.YtknnjkhocbpohaaDoor
namespace Go.Proofs.YtknnjkhocbpohaaDoor
open Go.RowKit
set_option linter.unusedVariables false
set_option linter.unusedSimpArgs false
set_option maxRecDepth 100000 in
set_option maxHeartbeats 1000000 in
theorem qcmp_no (t : TmD) (h : ¬ (1 ≤ t.fld ∧ t.fld ≤ 10 ∧ 1 ≤ t.rel ∧ t.rel ≤ 5)) (w : World) : Calls Tryd.prog 33 #[.agg #[.int .i64 t.op, .int .i64 t.fld, .int .i64 t.rel, .int .i64 t.num, .string t.txt]] w (Gives (.bool (cmpOK t)) w) := by
  rw [cmp_no t h]
  obtain ⟨o, f, r, n, s⟩ := t
  dsimp only at h ⊢
  have b0 := Lib.hid (box_below w #[.int .i64 o, .int .i64 f, .int .i64 r, .int .i64 n, .string s] 38)
  by_cases h1 : f < 1
  · clear h
    go_enter Tryd.func33, Tryd.ntmps33
    go_wp2
    go_ret
    exact ⟨rfl, b0.out⟩
  by_cases h2 : 10 < f
  · clear h
    go_enter Tryd.func33, Tryd.ntmps33
    go_wp2
    go_ret
    exact ⟨rfl, b0.out⟩
  by_cases h3 : r < 1
  · clear h
    go_enter Tryd.func33, Tryd.ntmps33
    go_wp2
    go_ret
    exact ⟨rfl, b0.out⟩
  have h4 : 5 < r := by omega
  clear h
  go_enter Tryd.func33, Tryd.ntmps33
  go_wp2
  go_ret
  exact ⟨rfl, b0.out⟩
set_option maxRecDepth 100000 in
set_option maxHeartbeats 1000000 in
theorem qcmp_in (t : TmD) (q1 : ∀ W, Calls Tryd.prog 34 #[.string t.txt] W (Gives (.bool (qtextB t.txt)) W)) (q3 : t.txt.toList.isEmpty = qemptyB t.txt) (hs : t.txt.size ≤ maxLen) (h1 : 1 ≤ t.fld) (h2 : t.fld ≤ 10) (h3 : 1 ≤ t.rel) (h4 : t.rel ≤ 5) (w : World) (ht : ATab w) : Calls Tryd.prog 33 #[.agg #[.int .i64 t.op, .int .i64 t.fld, .int .i64 t.rel, .int .i64 t.num, .string t.txt]] w (Gives (.bool (cmpOK t)) w) := by
  have hR := Lib.hid (cmp_by t h1 h2 h3 h4)
  replace q1 := Lib.hid q1
  replace q3 := Lib.hid q3
  have q2 := Lib.hid (fun W => parse_any t.txt W hs)
  have hw := fW_range t.fld h1 h2
  obtain ⟨o, f, r, n, s⟩ := t
  dsimp only at *
  obtain ⟨k, rfl⟩ := Int.eq_ofNat_of_zero_le (show 0 ≤ f by omega)
  obtain ⟨j, rfl⟩ := Int.eq_ofNat_of_zero_le (show 0 ≤ r by omega)
  have c0 : w.cell? ⟨1, k * 3, none⟩ = some (.int .i64 (fW (k : Int))) := ht.fields _ (by omega)
  have c1 : w.cell? ⟨1, k * 3 + 1, none⟩ = some (.int .i64 (fLo (k : Int))) := ht.fields _ (by omega)
  have c2 : w.cell? ⟨1, k * 3 + 2, none⟩ = some (.int .i64 (fHi (k : Int))) := ht.fields _ (by omega)
  have c3 : w.cell? ⟨2, (fW (k : Int)).toNat * 6 + j, none⟩ = some (.bool (fRel (k : Int) (j : Int))) := ht.rels _ (by omega)
  have g0 := ht.size
  have g1 : (1 : Nat) < w.heap.size := by omega
  have g2 : (2 : Nat) < w.heap.size := by omega
  have hB2 := Lib.hid (fun (x y : Array Value) (t1 t2 : TypeId) m => Below.drewN (box2_below w x y t1 t2) m)
  have hE : Hid (fEnd ⟨o, k, j, n, s⟩ = if fW (k : Int) = 3 then qtextB s else if fW (k : Int) = 4 then decide ((parsed s).2 = 0) else qemptyB s) := Lib.hid rfl
  generalize cmpOK _ = R at *
  generalize fEnd _ = en at *
  generalize fRel (k : Int) (j : Int) = rb at *
  generalize fLo (k : Int) = lo at *
  generalize fHi (k : Int) = hi at *
  generalize fW (k : Int) = ww at *
  generalize qtextB s = tb at *
  generalize qemptyB s = eb at *
  clear ht g0
  have hj : (j : Int) < 6 := by omega
  have hk : (k : Int) < 11 := by omega
  have hwi : ww < 5 := by omega
  have hw0 : 0 ≤ ww := by omega
  cases rb with
  | false =>
    have hF : Hid (R = false) := Lib.hid (by rw [hR.out]; rfl)
    clear hR q1 q2 q3 hE
    go_enter Tryd.func33, Tryd.ntmps33
    go_wp2
    go_quiet (fail)
    go_wp2
    go_ret
    exact ⟨ret_bool hF.out.symm, hB2.out _ _ _ _ _⟩
  | true =>
  by_cases hlo : n < lo
  · have hF : Hid (R = false) := Lib.hid (by rw [hR.out, decide_eq_false (show ¬ lo ≤ n by omega)]; rfl)
    have hd : decide (n < lo) = true := decide_eq_true hlo
    clear hR q1 q2 q3 hE
    go_enter Tryd.func33, Tryd.ntmps33
    go_wp2
    go_quiet (fail)
    go_wp2
    go_ret
    exact ⟨ret_bool hF.out.symm, hB2.out _ _ _ _ _⟩
  have hd : decide (n < lo) = false := decide_eq_false hlo
  by_cases hhi : hi < n
  · have hF : Hid (R = false) := Lib.hid (by rw [hR.out, decide_eq_false (show ¬ n ≤ hi by omega)]; simp)
    have hd2 : decide (hi < n) = true := decide_eq_true hhi
    clear hR q1 q2 q3 hE
    go_enter Tryd.func33, Tryd.ntmps33
    go_wp2
    go_quiet (fail)
    go_wp2
    go_ret
    exact ⟨ret_bool hF.out.symm, hB2.out _ _ _ _ _⟩
  have hd2 : decide (hi < n) = false := decide_eq_false hhi
  have hF0 : Hid (R = en) := Lib.hid (by rw [hR.out, decide_eq_true (show lo ≤ n by omega), decide_eq_true (show n ≤ hi by omega)]; rfl)
  clear hR
  by_cases h3w : ww = 3
  · have hF : Hid (R = tb) := Lib.hid (by rw [hF0.out, hE.out, if_pos h3w])
    have e3 : (ww == 3) = true := by simpa using h3w
    have E3 := Lib.hid e3
    clear hE hF0 q2 q3 h3w e3
    go_enter Tryd.func33, Tryd.ntmps33
    go_wp2
    go_quiet (fail)
    have e3 := E3.out
    go_wp2_with fail
    refine (q1.out _).mono ?_
    rintro e u1 ⟨rfl, b1⟩
    go_wp2
    go_ret
    exact ⟨ret_bool hF.out.symm, (hB2.out _ _ _ _ _).trans (b1.mono (hB2.out _ _ _ _ _).size)⟩
  have e3 : (ww == 3) = false := by simpa using h3w
  by_cases h4w : ww = 4
  · have hF : Hid (R = decide ((parsed s).2 = 0)) := Lib.hid (by rw [hF0.out, hE.out, if_neg h3w, if_pos h4w])
    have e4 : (ww == 4) = true := by simpa using h4w
    generalize (parsed s).1 = P1 at *
    generalize (parsed s).2 = P2 at *
    have E3 := Lib.hid e3
    have E4 := Lib.hid e4
    clear hE hF0 q1 q3 h3w h4w e3 e4
    go_enter Tryd.func33, Tryd.ntmps33
    go_wp2
    go_quiet (fail)
    have e3 := E3.out
    have e4 := E4.out
    go_wp2_with fail
    refine (q2.out _).mono ?_
    rintro e u1 ⟨rfl, rfl⟩
    go_wp2
    go_ret
    exact ⟨ret_bool (by rw [hF.out]; rfl), hB2.out _ _ _ _ _⟩
  · have e4 : (ww == 4) = false := by simpa using h4w
    have hF : Hid (R = eb) := Lib.hid (by rw [hF0.out, hE.out, if_neg h3w, if_neg h4w])
    have h5 := q3.out
    have E3 := Lib.hid e3
    have E4 := Lib.hid e4
    clear hE hF0 q1 q2 q3 h3w h4w e3 e4
    go_enter Tryd.func33, Tryd.ntmps33
    go_wp2
    go_quiet (fail)
    have e3 := E3.out
    have e4 := E4.out
    go_wp2
    go_ret
    exact ⟨ret_bool (by rw [hF.out]; try exact h5), hB2.out _ _ _ _ _⟩
end Go.Proofs.YtknnjkhocbpohaaDoor
namespace Go.Proofs.YtknnjkhocbpohaaDoor
open Go.RowKit
set_option linter.unusedVariables false
set_option linter.unusedSimpArgs false
def TxtOK (s : ByteArray) : Prop := ∀ W, Calls Tryd.prog 34 #[.string s] W (Gives (.bool (qtextB s)) W)
theorem qcmp_any (t : TmD) (q1 : TxtOK t.txt) (q3 : t.txt.toList.isEmpty = qemptyB t.txt) (hs : t.txt.size ≤ maxLen) (w : World) (ht : ATab w) : Calls Tryd.prog 33 #[.agg #[.int .i64 t.op, .int .i64 t.fld, .int .i64 t.rel, .int .i64 t.num, .string t.txt]] w (Gives (.bool (cmpOK t)) w) := by
  by_cases h : 1 ≤ t.fld ∧ t.fld ≤ 10 ∧ 1 ≤ t.rel ∧ t.rel ≤ 5
  · exact qcmp_in t q1 q3 hs h.1 h.2.1 h.2.2.1 h.2.2.2 w ht
  · exact qcmp_no t h w
set_option maxRecDepth 100000 in
set_option maxHeartbeats 1000000 in
theorem qright_any (t : TmD) (q1 : TxtOK t.txt) (q3 : t.txt.toList.isEmpty = qemptyB t.txt) (hs : t.txt.size ≤ maxLen) (w : World) (ht : ATab w) : Calls Tryd.prog 31 #[.agg #[.int .i64 t.op, .int .i64 t.fld, .int .i64 t.rel, .int .i64 t.num, .string t.txt]] w (Gives (.bool (rightT t)) w) := by
  have qc := Lib.hid (fun W hW => qcmp_any t q1 q3 hs W hW)
  have hR : Hid (rightT t = if t.op = 2 then cmpOK t else (decide (1 ≤ t.op) && decide (t.op ≤ 5)) && plainB t) := Lib.hid rfl
  obtain ⟨o, f, r, n, s⟩ := t
  dsimp only at *
  have b0 := Lib.hid (box_below w #[.int .i64 o, .int .i64 f, .int .i64 r, .int .i64 n, .string s] 38)
  have hp : Hid (∀ W, (binOp BinOp.eql 38 (.agg #[.int .i64 o, .int .i64 f, .int .i64 r, .int .i64 n, .string s]) (.agg #[.int .i64 o, .int .i64 0, .int .i64 0, .int .i64 0, .string ⟨#[]⟩])).run Tryd.prog W = .ok (.bool (plainB ⟨o, f, r, n, s⟩)) W) := Lib.hid (fun W => tm_plain o f r n s W)
  generalize rightT _ = R at *
  generalize cmpOK _ = C at *
  generalize plainB _ = P at *
  clear q1 q3 hs
  by_cases h2 : o = 2
  · have hF : Hid (R = C) := Lib.hid (by rw [hR.out, if_pos h2])
    subst h2
    clear hR hp
    obtain ⟨U, hU⟩ : ∃ U, U = w.alloc (.cells #[.int .i64 2, .int .i64 f, .int .i64 r, .int .i64 n, .string s] 38) := ⟨_, rfl⟩
    have hb : Below w.heap.size w U := by rw [hU]; exact b0.out
    have q := Lib.hid (qc.out U (ht.on hb))
    have hU' := Lib.hid hU
    have hb' := Lib.hid hb
    clear hU hb b0 ht
    go_enter Tryd.func31, Tryd.ntmps31
    go_wp2_with fail
    rw [← hU'.out]
    refine q.out.mono ?_
    rintro e u1 ⟨rfl, b1⟩
    have hf := Lib.hid (hb'.out.trans (b1.mono hb'.out.size))
    clear b1
    go_wp2
    go_ret
    exact ⟨ret_bool hF.out.symm, hf.out⟩
  · have h2b : (o == 2) = false := by simpa using h2
    have hF : Hid (R = ((decide (1 ≤ o) && decide (o ≤ 5)) && P)) := Lib.hid (by rw [hR.out, if_neg h2])
    clear hR qc
    have hq := hp.out
    clear ht
    by_cases h1 : 1 ≤ o
    · by_cases h5 : o ≤ 5
      · have d1 : decide (1 ≤ o) = true := decide_eq_true h1
        have d2 : decide (o ≤ 5) = true := decide_eq_true h5
        clear h2
        go_enter Tryd.func31, Tryd.ntmps31
        go_wp2
        go_ret
        exact ⟨ret_bool (by rw [hF.out, d1, d2]; simp), b0.out⟩
      · have d1 : decide (1 ≤ o) = true := decide_eq_true h1
        have d2 : decide (o ≤ 5) = false := decide_eq_false h5
        clear h2
        go_enter Tryd.func31, Tryd.ntmps31
        go_wp2
        go_ret
        exact ⟨ret_bool (by rw [hF.out, d2]; simp), b0.out⟩
    · have d1 : decide (1 ≤ o) = false := decide_eq_false h1
      clear h2
      go_enter Tryd.func31, Tryd.ntmps31
      go_wp2
      go_ret
      exact ⟨ret_bool (by rw [hF.out, d1]; simp), b0.out⟩
end Go.Proofs.YtknnjkhocbpohaaDoor
namespace Go.Proofs.YtknnjkhocbpohaaDoor
open Go.RowKit
set_option linter.unusedVariables false
set_option linter.unusedSimpArgs false
def qoddN (r : Nat) : Bool := decide (r < 32) || decide (126 < r)
theorem qdec_low (s : ByteArray) (i : Nat) (h : (s.get! i).toNat < 128) : Utf8.decode s i = ((s.get! i).toNat, 1) := by
  unfold Utf8.decode
  simp only [Nat.add_zero]
  rw [if_pos h]
theorem qdec_high (s : ByteArray) (i : Nat) (h : ¬ (s.get! i).toNat < 128) : 128 ≤ (Utf8.decode s i).1 := by
  unfold Utf8.decode
  simp only [Nat.add_zero]
  rw [if_neg h]
  have e : Utf8.runeError = 65533 := rfl
  split
  · split
    · next hc => exact hc
    · rw [e]; omega
  · split
    · split
      · next hc => simp at hc; omega
      · rw [e]; omega
    · split
      · split
        · next hc => simp at hc; omega
        · rw [e]; omega
      · rw [e]; omega
theorem qidx_odd (s : ByteArray) : ∀ (f pos : Nat), s.size ≤ f + pos → (0 ≤ Lib.idxFuncFrom qoddN true s f pos ↔ ∃ j, pos ≤ j ∧ j < s.size ∧ qoddN (s.get! j).toNat = true)
  | 0, pos, h => by
    unfold Lib.idxFuncFrom
    exact ⟨fun h => by omega, fun ⟨j, h1, h2, _⟩ => by omega⟩
  | f + 1, pos, h => by
    unfold Lib.idxFuncFrom
    by_cases hp : pos < s.size
    · rw [if_pos hp]
      by_cases hb : (s.get! pos).toNat < 128
      · rw [qdec_low s pos hb]
        by_cases ho : qoddN (s.get! pos).toNat = true
        · rw [if_pos ho]
          exact ⟨fun _ => ⟨pos, Nat.le_refl _, hp, ho⟩, fun _ => by omega⟩
        · rw [if_neg ho, qidx_odd s f (pos + 1) (by omega)]
          constructor
          · rintro ⟨j, h1, h2, h3⟩; exact ⟨j, by omega, h2, h3⟩
          · rintro ⟨j, h1, h2, h3⟩
            refine ⟨j, ?_, h2, h3⟩
            rcases Nat.lt_or_ge pos j with h4 | h4
            · exact h4
            · have : j = pos := by omega
              subst this
              exact absurd h3 ho
      · have hd := qdec_high s pos hb
        have ho : qoddN (Utf8.decode s pos).1 = true := by simp [qoddN]; omega
        rw [if_pos ho]
        exact ⟨fun _ => ⟨pos, Nat.le_refl _, hp, by simp [qoddN]; omega⟩, fun _ => by omega⟩
    · rw [if_neg hp]
      exact ⟨fun h => by omega, fun ⟨j, h1, h2, _⟩ => by omega⟩
theorem qidx_all (s : ByteArray) : decide (0 ≤ Lib.idxFunc qoddN true s) = !((tbyt s).all fun c => decide (32 ≤ c.toNat) && decide (c.toNat ≤ 126)) := by
  have h := qidx_odd s s.size 0 (by omega)
  have e : ∀ j, j < s.size → s.get! j = (tbyt s).getD j 0 := by
    clear h
    intro j hj
    unfold tbyt
    have h2 : j < s.data.size := hj
    obtain ⟨bs⟩ := s
    show bs[j]! = bs.toList.getD j 0
    rw [getElem!_pos bs j h2]
    simp [List.getD, h2]
  unfold Lib.idxFunc
  rw [Bool.eq_iff_iff, decide_eq_true_eq, h]
  simp only [Bool.not_eq_true', List.all_eq_false]
  constructor
  · rintro ⟨j, _, h2, h3⟩
    refine ⟨s.get! j, ?_, ?_⟩
    · rw [e j h2]
      have h4 : j < (tbyt s).length := h2
      simp [List.getD, h4]
    · unfold qoddN at h3
      simp at h3 ⊢
      omega
  · rintro ⟨c, hc, h3⟩
    obtain ⟨j, hj, e2⟩ := List.getElem_of_mem hc
    refine ⟨j, Nat.zero_le _, hj, ?_⟩
    rw [e j hj]
    have e3 : (tbyt s).getD j 0 = c := by rw [← e2]; simp [List.getD, hj]
    rw [e3]
    unfold qoddN
    simp at h3 ⊢
    omega
end Go.Proofs.YtknnjkhocbpohaaDoor
namespace Go.Proofs
open Go.Shelf
def Tryd.laysGw17_ren : Go.Shelf.Ren := ⟨fun | 17 => 37 | 15 => 39 | 20 => 41 | n => n, fun | 9 => 9 | 23 => 65 | 4 => 4 | 3 => 3 | 0 => 0 | 21 => 21 | n => n, fun | n => n⟩
theorem Tryd.laysGw17 : Go.Proofs.LaysGw.n17 Tryd.prog Tryd.laysGw17_ren := {
  mixed := by kernel_rfl
  f15 := Tryd.func39.trans (congrArg some (by kernel_rfl))
  f17 := Tryd.func37.trans (congrArg some (by kernel_rfl))
  f20 := Tryd.func41.trans (congrArg some (by kernel_rfl))
  t0 := Tryd.underlying0
  a0 := Tryd.isAgg0
  z0 := Tryd.sizeOf0
  v0 := Tryd.zeroValue0
  i0 := by kernel_rfl
  t3 := Tryd.underlying3
  a3 := Tryd.isAgg3
  z3 := Tryd.sizeOf3
  v3 := Tryd.zeroValue3
  i3 := by kernel_rfl
  t4 := Tryd.underlying4
  a4 := Tryd.isAgg4
  z4 := Tryd.sizeOf4
  v4 := Tryd.zeroValue4
  i4 := by kernel_rfl
  t9 := Tryd.underlying9
  a9 := Tryd.isAgg9
  z9 := Tryd.sizeOf9
  v9 := Tryd.zeroValue9
  i9 := by kernel_rfl
  t21 := Tryd.underlying21
  a21 := Tryd.isAgg21
  z21 := Tryd.sizeOf21
  v21 := Tryd.zeroValue21
  i21 := by kernel_rfl
  t23 := Tryd.underlying65
  a23 := Tryd.isAgg65
  z23 := Tryd.sizeOf65
  v23 := Tryd.zeroValue65
  i23 := by kernel_rfl }
open Go.RowKit Go.Lib in
theorem Tryd.strings_ContainsFunc_grows (g : Nat) (lb : Array Value) (eg : ∀ args w, (callFunc g args).run Tryd.prog w = .ok (.enter g args) w) (p : Nat → Bool) (s : ByteArray) (w : World) (hp : PredGrows Tryd.prog g lb p w) :
    Calls Tryd.prog 37 #[.string s, .func (.func g) #[] lb] w fun e w' => e = .returned (.bool (decide (0 ≤ Lib.idxFunc p true s))) ∧ Below w.heap.size w w' := Any.strings_ContainsFunc_grows Tryd.laysGw17 g lb eg p s w hp
end Go.Proofs
namespace Go.Proofs.YtknnjkhocbpohaaDoor
open Go.RowKit
set_option linter.unusedVariables false
set_option linter.unusedSimpArgs false
set_option maxRecDepth 100000 in
theorem qodd_any (x : Nat) (w : World) : Calls Tryd.prog 36 #[.int .i32 (x : Int)] w (Tells (.bool (qoddN x)) w) := by
  have hR : Hid (qoddN x = (decide (x < 32) || decide (126 < x))) := Lib.hid rfl
  generalize qoddN x = R at *
  by_cases h1 : x < 32
  · have h1i : (x : Int) < 32 := by omega
    have hF : Hid (R = true) := Lib.hid (by rw [hR.out, decide_eq_true h1]; rfl)
    clear hR
    go_enter Tryd.func36, Tryd.ntmps36
    go_wp2
    go_ret
    exact ⟨ret_bool hF.out.symm, rfl⟩
  have h1i : ¬ (x : Int) < 32 := by omega
  by_cases h2 : 126 < x
  · have h2i : (126 : Int) < (x : Int) := by omega
    have hF : Hid (R = true) := Lib.hid (by rw [hR.out, decide_eq_false h1, decide_eq_true h2]; rfl)
    clear hR
    go_enter Tryd.func36, Tryd.ntmps36
    go_wp2
    go_ret
    exact ⟨ret_bool hF.out.symm, rfl⟩
  have h2i : ¬ (126 : Int) < (x : Int) := by omega
  have hF : Hid (R = false) := Lib.hid (by rw [hR.out, decide_eq_false h1, decide_eq_false h2]; rfl)
  clear hR
  go_enter Tryd.func36, Tryd.ntmps36
  go_wp2
  go_ret
  exact ⟨ret_bool hF.out.symm, rfl⟩
theorem qcontains (s : ByteArray) (w : World) : Calls Tryd.prog 37 #[.string s, .func (.func 36) #[] #[]] w (Gives (.bool (!((tbyt s).all fun c => decide (32 ≤ c.toNat) && decide (c.toNat ≤ 126)))) w) := by
  have h := Tryd.strings_ContainsFunc_grows 36 #[] (fun args w => by kernel_rfl) qoddN s w (fun W x hx hb => (qodd_any x W).mono (fun e w' h => ⟨h.1, by rw [← h.2]; exact Below.refl _ _⟩))
  rw [qidx_all s] at h
  exact h
theorem qstr_empty (s : ByteArray) : s.toList.isEmpty = qemptyB s := by
  unfold qemptyB
  rw [ByteArray.toList_eq]
  have : s.size = s.data.toList.length := by rw [Array.length_toList]; rfl
  rw [this]
  cases s.data.toList <;> simp
set_option maxRecDepth 100000 in
theorem qtext_any (s : ByteArray) (w : World) : Calls Tryd.prog 34 #[.string s] w (Gives (.bool (qtextB s)) w) := by
  have hR : Hid (qtextB s = (decide (s.size ≤ 128) && (tbyt s).all fun c => decide (32 ≤ c.toNat) && decide (c.toNat ≤ 126))) := Lib.hid rfl
  have q := Lib.hid (qcontains s w)
  generalize ((tbyt s).all fun c => decide (32 ≤ c.toNat) && decide (c.toNat ≤ 126)) = b at *
  generalize qtextB s = R at *
  by_cases h2 : s.size ≤ 128
  · have h2i : (s.size : Int) ≤ 128 := by omega
    have hF : Hid (R = b) := Lib.hid (by rw [hR.out, decide_eq_true h2]; rfl)
    clear hR
    go_enter Tryd.func34, Tryd.ntmps34
    go_wp2_with fail
    refine q.out.mono ?_
    rintro e w1 ⟨rfl, hb1⟩
    go_wp2
    go_ret
    exact ⟨ret_bool (by rw [hF.out]; try (cases b <;> rfl)), hb1⟩
  have h2i : ¬ (s.size : Int) ≤ 128 := by omega
  have hF : Hid (R = false) := Lib.hid (by rw [hR.out, decide_eq_false h2]; rfl)
  clear hR q
  go_enter Tryd.func34, Tryd.ntmps34
  go_wp2
  go_ret
  exact ⟨ret_bool hF.out.symm, Below.refl _ _⟩
end Go.Proofs.YtknnjkhocbpohaaDoor
namespace Go.Proofs.YtknnjkhocbpohaaDoor
open Go.RowKit
set_option linter.unusedVariables false
set_option linter.unusedSimpArgs false
def tmS (t : TmD) : Prop := t.txt.size ≤ 9223372036854775806
theorem tmS_max {t : TmD} (h : tmS t) : t.txt.size ≤ maxLen := by unfold tmS at h; unfold maxLen; omega
theorem txt_ok (s : ByteArray) : TxtOK s := fun W => qtext_any s W
end Go.Proofs.YtknnjkhocbpohaaDoor
