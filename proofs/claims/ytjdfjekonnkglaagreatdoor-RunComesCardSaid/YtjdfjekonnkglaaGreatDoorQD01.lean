/-
  Words and walks under the law's proof.
-/
import Derived.WalkKit
import Derived.LoopTactic
import Derived.Outline
import Derived.Lib.Hide
import Derived.Laws.BytesArg
import Derived.Laws.AppendOwnNone
import Derived.Deep.RegionHeld3
import Derived.Deep.DrawnRows
import Derived.Deep.Draws
import Derived.Deep.QuietTactic
import Derived.BigQuiet
import Derived.WalkSmall
import Derived.Test.YtjdfjekonnkglaaGreatDoorRows
import Derived.Laws.Rows
import Derived.Laws.Tables
import Derived.Laws.EntriesVeiled
import Derived.Lib.OthersKept
import Derived.Shelf.Small.Bits
import Derived.Shelf.Small.Wraps
import Derived.Shelf.Strconv.Itoa0
import Derived.Shelf.Strconv.Itoa1
import Derived.Shelf.LaysM
import Derived.Shelf.Strconv.Itoa2
import Derived.Shelf.Strconv.Itoa3
import Derived.Shelf.Sort.Plain
import Derived.Shelf.GgClosure.StringsIndexFunc
import Derived.Ground.GgwProg
import Derived.Shelf.GgClosure.StringsIndexFuncTop
import Derived.Shelf.GgClosure.StringsRunes
import Derived.Shelf.Strings.FuncGrows
import Derived.Shelf.Slices.Turned
import Derived.Shelf.Slices.Equal
import Derived.Ground.Names2Prog
import Derived.Shelf.Slices.Clone
import Derived.Shelf.Slices.SearchI
import Derived.Shelf.Slices.In.SortNone
import Derived.Shelf.Slices.Empties2
import Derived.Ground.SlgnProg
import Derived.Shelf.SlicesE.Clone
import Derived.Test.YtjdfjekonnkglaaGreatDoorProg
namespace Go.Proofs.YtjdfjekonnkglaaGreatDoor
open Go.RowKit
set_option linter.unusedVariables false
def nums (k : IntKind) (l : List Int) : List Value := l.map (Value.int k)
def Sees (k : IntKind) (B : Nat) (w : World) (a : Option Addr) (l : List Int) : Prop :=
  l = [] ∨ ∃ b off, a = some ⟨b, off, none⟩ ∧ b < B ∧ ∀ i, i < l.length → w.cell? ⟨b, off + i, none⟩ = some (.int k (l.getD i 0))
theorem Sees.below {k B w w' a l} (h : Sees k B w a l) (hb : Below B w w') : Sees k B w' a l := by
  rcases h with h | ⟨b, off, rfl, hB, hc⟩
  · exact .inl h
  · exact .inr ⟨b, off, rfl, hB, fun i hi => (hb.cell (p := ⟨b, off + i, none⟩) hB).trans (hc i hi)⟩
theorem Sees.mono {k B B' w a l} (h : Sees k B w a l) (hb : B ≤ B') : Sees k B' w a l := by
  rcases h with h | ⟨b, off, rfl, hB, hc⟩
  · exact .inl h
  · exact .inr ⟨b, off, rfl, by omega, hc⟩
theorem Sees.nil {k B w a} : Sees k B w a [] := .inl rfl
theorem sees_row {k : IntKind} {w : World} {a : Option Addr} {len cap : Nat} {zs : List Int}
    (h : (a = none ∧ len = 0 ∧ cap = 0 ∧ zs = []) ∨
      ∃ x, a = some x ∧ len ≤ cap ∧ cap ≤ maxLen ∧ zs.length = cap ∧ (∀ i, i < zs.length → w.cell? (x.add i) = some (.int k (zs.getD i 0))) ∧ ∀ n ∈ zs, (Lit.int k n).wf = true) :
    ∃ l : List Int, l.length = len ∧ len ≤ maxLen ∧ len ≤ cap ∧ (∀ n ∈ l, (Lit.int k n).wf = true) ∧ Sees k w.heap.size w a l := by
  rcases h with ⟨rfl, rfl, rfl, rfl⟩ | ⟨x, rfl, hl, hm, hz, hc, hw⟩
  · exact ⟨[], rfl, by simp, Nat.le_refl _, by simp, .inl rfl⟩
  · refine ⟨zs.take len, by simp; omega, by omega, hl, fun n hn => hw n (List.mem_of_mem_take hn), ?_⟩
    by_cases h0 : len = 0
    · left; subst h0; simp
    · right
      obtain ⟨b, off, spot⟩ := x
      have hc0 := hc 0 (by omega)
      have hspot : spot = none := by simpa [Addr.add] using World.cell?_spot hc0
      subst hspot
      refine ⟨b, off, rfl, World.block_lt_of_cell? w _ (hc0 : w.cell? ((⟨b, off, none⟩ : Addr).add 0) = _) |> fun h => by simpa [Addr.add] using h, fun i hi => ?_⟩
      have hi' : i < len := by simp at hi; omega
      have h1 := hc i (by omega)
      have h2 : (⟨b, off, none⟩ : Addr).add i = ⟨b, off + i, none⟩ := by unfold Addr.add; split <;> simp_all
      rw [h2] at h1
      rw [h1]
      simp [List.getD, hi']
theorem sees_own {k : IntKind} {w : World} {base : Nat} {e : TypeId} {v : Value} {n : Nat} {l : List Int} (h : w.ownsRow base e 1 v n (nums k l)) :
    ∃ a cap, v = .slice a l.length cap ∧ n = l.length ∧ Sees k w.heap.size w a l := by
  have hn : n = l.length := by have := h.1; simp [nums] at this; omega
  rcases h.2 with ⟨rfl, h0⟩ | ⟨g, cap, cur, rfl, _, hg, _⟩
  · subst hn
    exact ⟨none, 0, by rw [h0], rfl, .inl (List.eq_nil_of_length_eq_zero h0)⟩
  · subst hn
    refine ⟨_, cap, rfl, rfl, .inr ⟨g, 0, rfl, (Array.getElem?_eq_some_iff.1 hg).1, fun i hi => ?_⟩⟩
    have := h.cells (g := g) rfl i (.int k (l.getD i 0)) (by simp [nums, List.getD, hi])
    have h2 : (⟨g, 0, none⟩ : Addr).add i = ⟨g, 0 + i, none⟩ := by unfold Addr.add; split <;> simp_all
    rw [h2] at this
    exact this
def Made (e0 : TypeId) (k : IntKind) (w : World) (l : List Int) (e : Ending) (w' : World) : Prop :=
  ∃ v, e = .returned v ∧ w'.ownsRow w.heap.size e0 1 v l.length (nums k l) ∧ Below w.heap.size w w'
def Gives (v : Value) (w : World) (e : Ending) (w' : World) : Prop := e = .returned v ∧ Below w.heap.size w w'
def Bs (l : List Int) : Prop := ∀ x ∈ l, 0 ≤ x ∧ x ≤ 255
theorem Bs.at {l : List Int} (h : Bs l) {i : Nat} (hi : i < l.length) : 0 ≤ l.getD i 0 ∧ l.getD i 0 ≤ 255 := by
  simp only [List.getD, List.getElem?_eq_getElem hi, Option.getD_some]
  exact h _ (List.getElem_mem _)
theorem ret_bool {a b : Bool} (h : a = b) : Ending.returned (.bool a) = Ending.returned (.bool b) := by rw [h]
theorem ret_int {k : IntKind} {a b : Int} (h : a = b) : Ending.returned (.int k a) = Ending.returned (.int k b) := by rw [h]
theorem sees_new (k : IntKind) (w : World) (e : TypeId) (l : List Int) (cs : Array Value) (h : cs = (nums k l).toArray) (fr : Nat × Nat := (0, 0)) : Sees k (w.heap.size + 1) (w.alloc (.cells cs e fr)) (some ⟨w.heap.size, 0, none⟩) l := by
  subst h
  refine .inr ⟨w.heap.size, 0, rfl, by omega, fun i hi => ?_⟩
  rw [cell_of_row _ _ _ _ _ _ (heap_alloc_new w _)]
  simp [nums, List.getD, hi]
theorem Made.open {e0 : TypeId} {k : IntKind} {w w' : World} {l : List Int} {e : Ending} (h : Made e0 k w l e w') (n : Nat) (hn : l.length = n) :
    ∃ a cap, e = .returned (.slice a n cap) ∧ Sees k w'.heap.size w' a l ∧ Below w.heap.size w w' := by
  subst hn
  obtain ⟨v, rfl, hown, hb⟩ := h
  obtain ⟨a, cap, rfl, _, hs⟩ := sees_own hown
  exact ⟨a, cap, rfl, hs, hb⟩
theorem Sees.take {k : IntKind} {B : Nat} {w : World} {a : Option Addr} {l : List Int} (h : Sees k B w a l) (n : Nat) : Sees k B w a (l.take n) := by
  rcases h with rfl | ⟨b, off, rfl, hB, hc⟩
  · left; simp
  · refine .inr ⟨b, off, rfl, hB, fun i hi => ?_⟩
    have h1 : i < l.length := by simp at hi; omega
    have h2 : i < n := by simp at hi; omega
    rw [hc i h1]
    simp [List.getD, h2]
theorem Bs.take {l : List Int} (h : Bs l) (n : Nat) : Bs (l.take n) := fun x hx => h x (List.mem_of_mem_take hx)
theorem own_cap {k : IntKind} {w : World} {base : Nat} {e : TypeId} {n : Nat} {l : List Int} {a : Option Addr} {m c : Nat} (h : w.ownsRow base e 1 (.slice a m c) n (nums k l)) : m ≤ c := by
  rcases h.2 with ⟨h1, _⟩ | ⟨g, cap, cur, h1, _, _, h2, _⟩
  · injection h1 with _ h2 h3; omega
  · injection h1 with _ h3 h4; omega
end Go.Proofs.YtjdfjekonnkglaaGreatDoor
namespace Go.Proofs.YtjdfjekonnkglaaGreatDoor
open Go.RowKit
set_option linter.unusedVariables false
def codes (s : ByteArray) : List Int := s.data.toList.map fun b => (b.toNat : Int)
theorem codes_length (s : ByteArray) : (codes s).length = s.size := by
  unfold codes; rw [List.length_map, Array.length_toList]; rfl
theorem codes_at (s : ByteArray) (k : Nat) (h : k < s.size) : (codes s).getD k 0 = ((s[k]'h).toNat : Int) := by
  have h2 : k < s.data.toList.length := by rw [Array.length_toList]; exact h
  simp only [codes, List.getD, List.getElem?_map, List.getElem?_eq_getElem h2, Option.map_some, Option.getD_some]
  rfl
end Go.Proofs.YtjdfjekonnkglaaGreatDoor
namespace Go.Proofs.YtjdfjekonnkglaaGreatDoor
open Go.RowKit
set_option linter.unusedVariables false
theorem run_append_none {P : Program} (w : World) (base : Nat) (t ty e : TypeId) (i : TypeInfo) (size : Nat) (ht : P.underlying t = some (.slice e)) (hi : P.info? e = some i)
    (v : Value) (n : Nat) (xs : List Value) (hown : w.ownsRow base e size v n xs) (c : Nat) : (Builtin.append_ #[t, t] ty #[v, .slice none 0 c]).run P w = .ok v w := by
  rcases hown.2 with ⟨rfl, rfl⟩ | ⟨g, cap, cur, rfl, _, _, hnc, _⟩
  · simp [Builtin.append_, run_underlying ht, sizeOf, typeInfo, hi, Builtin.lenOf, Builtin.firstCells]
  · simp [Builtin.append_, run_underlying ht, sizeOf, typeInfo, hi, Builtin.lenOf, Builtin.firstCells, hnc, storeCells]
end Go.Proofs.YtjdfjekonnkglaaGreatDoor
namespace Go.Proofs.YtjdfjekonnkglaaGreatDoor
open Go.RowKit
set_option linter.unusedVariables false
theorem wpAnyH_mono {P : Program} {md : Region.Mode} {ops : Array Oper} {Q : Exit → Act → World → Prop} {S S' : World → Prop} (hS : ∀ w, S' w → S w) :
    ∀ (fuel : Nat) (listed : Array Bool) (a : Act) (w : World), wpAnyH P md ops Q S' fuel listed a w → wpAnyH P md ops Q S fuel listed a w
  | 0, _, _, _, h => h
  | fuel + 1, _, _, _, h => ⟨h.1, fun i hi => wpOp_mono (fun a' w' h' => ⟨hS w' h'.1, wpAnyH_mono hS fuel _ a' w' h'.2⟩) (h.2 i hi)⟩
theorem wpAnyH_now {P : Program} {md : Region.Mode} {ops : Array Oper} {Q : Exit → Act → World → Prop} {w0 w : World} {fuel : Nat} {listed : Array Bool} {a : Act} (hb : Below w0.heap.size w0 w)
    (h : Below w.heap.size w w → wpAnyH P md ops Q (fun w' => Below w.heap.size w w') fuel listed a w) : wpAnyH P md ops Q (fun w' => Below w0.heap.size w0 w') fuel listed a w :=
  wpAnyH_mono (fun w' h' => hb.trans (h'.mono hb.size)) _ _ _ _ (h (Below.refl _ _))
theorem rebase {w0 w1 : World} {C : World → Prop} (h : ∀ W, Below w0.heap.size w0 W → C W) (hb : Below w0.heap.size w0 w1) : ∀ W, Below w1.heap.size w1 W → C W :=
  fun W hW => h W (hb.trans (hW.mono hb.size))
theorem wp_drawn {P : Program} {ops : Array Oper} {Q : Exit → Act → World → Prop} {id : Nat} {a : Act} {w : World} (hm : P.follows .mixedOrders = true)
    (h : Below w.heap.size w w.drew → wpAnyH P .any ops Q (fun w' => Below w.heap.size w w') ops.size (Array.replicate ops.size false) a w.drew) : (Code.region id ops true).wp P Q a w :=
  wp_region_held_drew hm ((Below.refl _ _).drew) h
theorem wp_drawn_on (S : World → Prop) {P : Program} {ops : Array Oper} {Q : Exit → Act → World → Prop} {id : Nat} {a : Act} {w : World} (hm : P.follows .mixedOrders = true) (hS : S w.drew)
    (h : S w.drew → wpAnyH P .any ops Q S ops.size (Array.replicate ops.size false) a w.drew) : (Code.region id ops true).wp P Q a w :=
  wp_region_held_drew hm hS h
end Go.Proofs.YtjdfjekonnkglaaGreatDoor
namespace Go.Proofs.YtjdfjekonnkglaaGreatDoor
open Go.RowKit
set_option linter.unusedVariables false
structure BelowE (X : List Nat) (B : Nat) (w w' : World) : Prop where
  os : w'.os = w.os
  tape : w'.tape = w.tape
  output : w'.output = w.output
  size : w.heap.size ≤ w'.heap.size
  block : ∀ k, k < B → k ∉ X → w'.heap[k]? = w.heap[k]?
theorem BelowE.refl (X : List Nat) (B : Nat) (w : World) : BelowE X B w w := ⟨rfl, rfl, rfl, Nat.le_refl _, fun _ _ _ => rfl⟩
theorem BelowE.of {X : List Nat} {B : Nat} {w w' : World} (h : Below B w w') : BelowE X B w w' := ⟨h.os, h.tape, h.output, h.size, fun k hk _ => h.block k hk⟩
theorem BelowE.none {B : Nat} {w w' : World} (h : BelowE [] B w w') : Below B w w' := ⟨h.os, h.tape, h.output, h.size, fun k hk => h.block k hk (by simp)⟩
theorem BelowE.trans {X : List Nat} {B : Nat} {a b c : World} (h : BelowE X B a b) (k : BelowE X B b c) : BelowE X B a c :=
  ⟨k.os.trans h.os, k.tape.trans h.tape, k.output.trans h.output, Nat.le_trans h.size k.size, fun i hi hx => (k.block i hi hx).trans (h.block i hi hx)⟩
theorem BelowE.mono {X : List Nat} {B B' : Nat} {w w' : World} (h : BelowE X B w w') (hB : B' ≤ B) : BelowE X B' w w' :=
  ⟨h.os, h.tape, h.output, h.size, fun k hk hx => h.block k (Nat.lt_of_lt_of_le hk hB) hx⟩
theorem BelowE.less {X Y : List Nat} {B : Nat} {w w' : World} (h : BelowE X B w w') (hX : ∀ x ∈ X, x < B → x ∈ Y) : BelowE Y B w w' :=
  ⟨h.os, h.tape, h.output, h.size, fun k hk hx => h.block k hk fun hm => hx (hX k hm hk)⟩
theorem BelowE.drew {X : List Nat} {B : Nat} {a w : World} (h : BelowE X B a w) : BelowE X B a w.drew := ⟨h.os, h.tape, h.output, h.size, h.block⟩
theorem BelowE.drewN {X : List Nat} {B : Nat} {a w : World} (h : BelowE X B a w) (n : Nat) : BelowE X B a (w.drewN n) := ⟨h.os, h.tape, h.output, h.size, h.block⟩
theorem BelowE.alloc {X : List Nat} {B : Nat} {a w : World} (h : BelowE X B a w) (hB : B ≤ w.heap.size) (o : Obj) : BelowE X B a (w.alloc o) :=
  h.trans (.of ((Below.refl B w).alloc hB o))
theorem BelowE.setIn {X : List Nat} {B : Nat} {a w : World} (h : BelowE X B a w) {p : Addr} (hp : p.block ∈ X) (u : Value) : BelowE X B a (w.setCell p u) :=
  h.trans ⟨rfl, rfl, rfl, by simp [World.setCell], fun k _ hx => Below.heap_setCell _ _ _ _ (fun e => hx (e ▸ hp))⟩
theorem BelowE.cell {X : List Nat} {B : Nat} {w w' : World} (h : BelowE X B w w') {p : Addr} (hp : p.block < B) (hx : p.block ∉ X) : w'.cell? p = w.cell? p := World.cell?_of_block (w := w) (h.block p.block hp hx)
def Holds (w : World) (g : Nat) (t : TypeId) (cs : Array Value) : Prop := w.heap[g]? = some (.cells cs t (0, 0))
theorem Holds.lt {w : World} {g : Nat} {t : TypeId} {cs : Array Value} (h : Holds w g t cs) : g < w.heap.size := (Array.getElem?_eq_some_iff.1 h).1
theorem Holds.cell {w : World} {g : Nat} {t : TypeId} {cs : Array Value} (h : Holds w g t cs) (i : Nat) : w.cell? ⟨g, i, none⟩ = cs[i]? := cell_of_row w g i cs t (0, 0) h
theorem Holds.free {w : World} {g : Nat} {t : TypeId} {cs : Array Value} (h : Holds w g t cs) (i : Nat) : w.frozen? ⟨g, i, none⟩ = false := by
  unfold Holds at h; simp [World.frozen?, h]
theorem Holds.new (w : World) (t : TypeId) (cs : Array Value) : Holds (w.alloc (.cells cs t)) w.heap.size t cs := heap_alloc_new w _
theorem Holds.drew {w : World} {g : Nat} {t : TypeId} {cs : Array Value} (h : Holds w g t cs) : Holds w.drew g t cs := h
theorem Holds.drewN {w : World} {g : Nat} {t : TypeId} {cs : Array Value} (h : Holds w g t cs) (n : Nat) : Holds (w.drewN n) g t cs := h
theorem Holds.alloc {w : World} {g : Nat} {t : TypeId} {cs : Array Value} (h : Holds w g t cs) (o : Obj) : Holds (w.alloc o) g t cs := (Below.heap_alloc w o g h.lt).trans h
theorem Holds.set {w : World} {g : Nat} {t : TypeId} {cs : Array Value} (h : Holds w g t cs) (i : Nat) (u : Value) : Holds (w.setCell ⟨g, i, none⟩ u) g t (cs.setIfInBounds i u) := by
  unfold Holds at h ⊢; simp [World.setCell, Array.getElem?_modify, h]
theorem Holds.far {w : World} {g : Nat} {t : TypeId} {cs : Array Value} (h : Holds w g t cs) {p : Addr} (hp : g ≠ p.block) (u : Value) : Holds (w.setCell p u) g t cs := (Below.heap_setCell w p u g hp).trans h
theorem Holds.below {w w' : World} {B g : Nat} {t : TypeId} {cs : Array Value} (h : Holds w g t cs) (hb : Below B w w') (hg : g < B) : Holds w' g t cs := (hb.block g hg).trans h
theorem Holds.belowE {w w' : World} {X : List Nat} {B g : Nat} {t : TypeId} {cs : Array Value} (h : Holds w g t cs) (hb : BelowE X B w w') (hg : g < B) (hx : g ∉ X) : Holds w' g t cs := (hb.block g hg hx).trans h
def SeesE (X : List Nat) (k : IntKind) (B : Nat) (w : World) (a : Option Addr) (l : List Int) : Prop :=
  l = [] ∨ ∃ b off, a = some ⟨b, off, none⟩ ∧ b < B ∧ b ∉ X ∧ ∀ i, i < l.length → w.cell? ⟨b, off + i, none⟩ = some (.int k (l.getD i 0))
theorem SeesE.sees {X k B w a l} (h : SeesE X k B w a l) : Sees k B w a l := by
  rcases h with h | ⟨b, off, h1, h2, _, h3⟩
  · exact .inl h
  · exact .inr ⟨b, off, h1, h2, h3⟩
theorem Sees.out {X k B w a l} (h : Sees k B w a l) (hx : ∀ x ∈ X, B ≤ x) : SeesE X k B w a l := by
  rcases h with h | ⟨b, off, h1, h2, h3⟩
  · exact .inl h
  · exact .inr ⟨b, off, h1, h2, fun hm => by have := hx b hm; omega, h3⟩
theorem SeesE.belowE {X k B w w' a l} (h : SeesE X k B w a l) (hb : BelowE X B w w') : SeesE X k B w' a l := by
  rcases h with h | ⟨b, off, rfl, hB, hx, hc⟩
  · exact .inl h
  · exact .inr ⟨b, off, rfl, hB, hx, fun i hi => (hb.cell (p := ⟨b, off + i, none⟩) hB hx).trans (hc i hi)⟩
theorem SeesE.mono {X k B B' w a l} (h : SeesE X k B w a l) (hb : B ≤ B') : SeesE X k B' w a l := by
  rcases h with h | ⟨b, off, rfl, hB, hx⟩
  · exact .inl h
  · exact .inr ⟨b, off, rfl, by omega, hx⟩
theorem Sees.drewN {k B w a l} (h : Sees k B w a l) (n : Nat) : Sees k B (w.drewN n) a l := h
theorem SeesE.drewN {X k B w a l} (h : SeesE X k B w a l) (n : Nat) : SeesE X k B (w.drewN n) a l := h
theorem Below.drewN {B : Nat} {a w : World} (h : Below B a w) (n : Nat) : Below B a (w.drewN n) := ⟨h.os, h.tape, h.output, h.size, h.block⟩
end Go.Proofs.YtjdfjekonnkglaaGreatDoor
namespace Go.Proofs.YtjdfjekonnkglaaGreatDoor
open Go.RowKit
set_option linter.unusedVariables false
set_option linter.unusedSimpArgs false
def isVarB (x n : Int) : Bool := decide (1 ≤ x) && decide (x ≤ n)
def isTermB (x n : Int) : Bool := decide (0 ≤ x) && decide (x ≤ n)
def isValB (c : Int) : Bool := decide (-1099511627776 ≤ c) && decide (c ≤ 1099511627776)
def skipB (x y c d : Int) : Bool := (x == 0) && ((y == 0) && ((c == 0) && (d == 0)))
def letB (x y c d n : Int) : Bool := isVarB x n && (isTermB y n && (isValB c && (d == 0)))
def anyB (x y c d n : Int) : Bool := isVarB x n && ((y == 0) && (isValB c && (isValB d && decide (c ≤ d))))
def diffB (x y c d n : Int) : Bool := isTermB x n && (isTermB y n && ((x != y) && (isValB c && (d == 0))))
def stmtB (k x y c d n : Int) : Bool := if k = 1 then skipB x y c d else if k = 2 then letB x y c d n else if k = 3 then anyB x y c d n else diffB x y c d n
def rightB (k x y c d n : Int) : Bool := if n < 0 ∨ 8 < n ∨ k < 1 ∨ 5 < k then false else stmtB k x y c d n
def SetTo (v : Value) (w : World) (e : Ending) (w' : World) : Prop := e = .returned v ∧ w = w'
theorem isVar_any (x n : Int) (w : World) : Calls Tryz.prog 97 #[.int .i64 x, .int .i64 n] w (SetTo (.bool (isVarB x n)) w) := by
  by_cases h1 : 1 ≤ x
  · have hR : Hid (decide (x ≤ n) = isVarB x n) := Lib.hid (by unfold isVarB; rw [decide_eq_true h1, Bool.true_and])
    go_enter Tryz.func97, Tryz.ntmps97
    go_wp2
    go_ret
    exact ⟨ret_bool hR.out, rfl⟩
  · have hR : Hid (false = isVarB x n) := Lib.hid (by unfold isVarB; rw [decide_eq_false h1, Bool.false_and])
    go_enter Tryz.func97, Tryz.ntmps97
    go_wp2
    go_ret
    exact ⟨ret_bool hR.out, rfl⟩
theorem isTerm_any (x n : Int) (w : World) : Calls Tryz.prog 98 #[.int .i64 x, .int .i64 n] w (SetTo (.bool (isTermB x n)) w) := by
  by_cases h1 : 0 ≤ x
  · have hR : Hid (decide (x ≤ n) = isTermB x n) := Lib.hid (by unfold isTermB; rw [decide_eq_true h1, Bool.true_and])
    go_enter Tryz.func98, Tryz.ntmps98
    go_wp2
    go_ret
    exact ⟨ret_bool hR.out, rfl⟩
  · have hR : Hid (false = isTermB x n) := Lib.hid (by unfold isTermB; rw [decide_eq_false h1, Bool.false_and])
    go_enter Tryz.func98, Tryz.ntmps98
    go_wp2
    go_ret
    exact ⟨ret_bool hR.out, rfl⟩
theorem pclip_any (c : Int) (w : World) : Calls Tryz.prog 54 #[.int .i64 c] w (SetTo (.int .i64 (max (-1099511627776) (min 1099511627776 c))) w) := by
  by_cases h1 : 1099511627776 ≤ c
  · have h2 : ¬ c < 1099511627776 := by omega
    go_enter Tryz.func54, Tryz.ntmps54
    go_wp2
    go_ret
    exact ⟨ret_int (by omega), rfl⟩
  · have h2 : c < 1099511627776 := by omega
    by_cases h3 : -1099511627776 < c
    · have h4 : ¬ c ≤ -1099511627776 := by omega
      clear h1
      go_enter Tryz.func54, Tryz.ntmps54
      go_wp2
      go_ret
      exact ⟨ret_int (by omega), rfl⟩
    · have h4 : c ≤ -1099511627776 := by omega
      clear h1
      go_enter Tryz.func54, Tryz.ntmps54
      go_wp2
      go_ret
      exact ⟨ret_int (by omega), rfl⟩
theorem pis_any (c : Int) (w : World) : Calls Tryz.prog 39 #[.int .i64 c] w (SetTo (.bool (isValB c)) w) := by
  have hR : Hid ((c == max (-1099511627776) (min 1099511627776 c)) = isValB c) := Lib.hid (by
    unfold isValB
    rw [Bool.eq_iff_iff, beq_iff_eq, Bool.and_eq_true, decide_eq_true_iff, decide_eq_true_iff]
    omega)
  have hq := Lib.hid (pclip_any c w)
  generalize max (-1099511627776) (min 1099511627776 c) = v at *
  go_enter Tryz.func39, Tryz.ntmps39
  go_wp2_with fail
  refine hq.out.mono ?_
  rintro e w1 ⟨rfl, rfl⟩
  go_wp2
  go_ret
  exact ⟨ret_bool hR.out, rfl⟩
set_option maxRecDepth 100000 in
theorem rightSkip_any (k x y c d n : Int) (w : World) : Calls Tryz.prog 86 #[.agg #[.int .i64 k, .int .i64 x, .int .i64 y, .int .i64 c, .int .i64 d], .int .i64 n] w (Gives (.bool (skipB x y c d)) w) := by
  have hB := Lib.hid ((Below.refl w.heap.size w).alloc (Nat.le_refl _) (.cells #[.int .i64 k, .int .i64 x, .int .i64 y, .int .i64 c, .int .i64 d] 51))
  cases h0 : (x == 0)
  · have hR : Hid (false = skipB x y c d) := Lib.hid (by unfold skipB; simp only [h0, Bool.true_and, Bool.false_and, Bool.and_true, Bool.and_false, decide_true, decide_false])
    go_enter Tryz.func86, Tryz.ntmps86
    go_wp2
    go_ret
    exact ⟨ret_bool hR.out, hB.out⟩
  cases h1 : (y == 0)
  · have hR : Hid (false = skipB x y c d) := Lib.hid (by unfold skipB; simp only [h0, h1, Bool.true_and, Bool.false_and, Bool.and_true, Bool.and_false, decide_true, decide_false])
    go_enter Tryz.func86, Tryz.ntmps86
    go_wp2
    go_ret
    exact ⟨ret_bool hR.out, hB.out⟩
  cases h2 : (c == 0)
  · have hR : Hid (false = skipB x y c d) := Lib.hid (by unfold skipB; simp only [h0, h1, h2, Bool.true_and, Bool.false_and, Bool.and_true, Bool.and_false, decide_true, decide_false])
    go_enter Tryz.func86, Tryz.ntmps86
    go_wp2
    go_ret
    exact ⟨ret_bool hR.out, hB.out⟩
  cases h3 : (d == 0)
  · have hR : Hid (false = skipB x y c d) := Lib.hid (by unfold skipB; simp only [h0, h1, h2, h3, Bool.true_and, Bool.false_and, Bool.and_true, Bool.and_false, decide_true, decide_false])
    go_enter Tryz.func86, Tryz.ntmps86
    go_wp2
    go_ret
    exact ⟨ret_bool hR.out, hB.out⟩
  have hR : Hid (true = skipB x y c d) := Lib.hid (by unfold skipB; simp only [h0, h1, h2, h3, Bool.true_and, Bool.false_and, Bool.and_true, Bool.and_false, decide_true, decide_false])
  go_enter Tryz.func86, Tryz.ntmps86
  go_wp2
  go_ret
  exact ⟨ret_bool hR.out, hB.out⟩
set_option maxRecDepth 100000 in
theorem rightLet_any (k x y c d n : Int) (w : World) : Calls Tryz.prog 88 #[.agg #[.int .i64 k, .int .i64 x, .int .i64 y, .int .i64 c, .int .i64 d], .int .i64 n] w (Gives (.bool (letB x y c d n)) w) := by
  have hB := Lib.hid ((Below.refl w.heap.size w).alloc (Nat.le_refl _) (.cells #[.int .i64 k, .int .i64 x, .int .i64 y, .int .i64 c, .int .i64 d] 51))
  have q0 := Lib.hid (fun W => isVar_any x n W)
  cases h0 : isVarB x n
  · rw [h0] at q0
    have hR : Hid (false = letB x y c d n) := Lib.hid (by unfold letB; simp only [h0, Bool.true_and, Bool.false_and, Bool.and_true, Bool.and_false, decide_true, decide_false])
    go_enter Tryz.func88, Tryz.ntmps88
    go_wp2_with fail
    refine (q0.out _).mono ?_
    rintro e w0 ⟨rfl, rfl⟩
    go_wp2
    go_ret
    exact ⟨ret_bool hR.out, hB.out⟩
  rw [h0] at q0
  have q1 := Lib.hid (fun W => isTerm_any y n W)
  cases h1 : isTermB y n
  · rw [h1] at q1
    have hR : Hid (false = letB x y c d n) := Lib.hid (by unfold letB; simp only [h0, h1, Bool.true_and, Bool.false_and, Bool.and_true, Bool.and_false, decide_true, decide_false])
    go_enter Tryz.func88, Tryz.ntmps88
    go_wp2_with fail
    refine (q0.out _).mono ?_
    rintro e w0 ⟨rfl, rfl⟩
    go_wp2_with fail
    refine (q1.out _).mono ?_
    rintro e w1 ⟨rfl, rfl⟩
    go_wp2
    go_ret
    exact ⟨ret_bool hR.out, hB.out⟩
  rw [h1] at q1
  have q2 := Lib.hid (fun W => pis_any c W)
  cases h2 : isValB c
  · rw [h2] at q2
    have hR : Hid (false = letB x y c d n) := Lib.hid (by unfold letB; simp only [h0, h1, h2, Bool.true_and, Bool.false_and, Bool.and_true, Bool.and_false, decide_true, decide_false])
    go_enter Tryz.func88, Tryz.ntmps88
    go_wp2_with fail
    refine (q0.out _).mono ?_
    rintro e w0 ⟨rfl, rfl⟩
    go_wp2_with fail
    refine (q1.out _).mono ?_
    rintro e w1 ⟨rfl, rfl⟩
    go_wp2_with fail
    refine (q2.out _).mono ?_
    rintro e w2 ⟨rfl, rfl⟩
    go_wp2
    go_ret
    exact ⟨ret_bool hR.out, hB.out⟩
  rw [h2] at q2
  cases h3 : (d == 0)
  · have hR : Hid (false = letB x y c d n) := Lib.hid (by unfold letB; simp only [h0, h1, h2, h3, Bool.true_and, Bool.false_and, Bool.and_true, Bool.and_false, decide_true, decide_false])
    go_enter Tryz.func88, Tryz.ntmps88
    go_wp2_with fail
    refine (q0.out _).mono ?_
    rintro e w0 ⟨rfl, rfl⟩
    go_wp2_with fail
    refine (q1.out _).mono ?_
    rintro e w1 ⟨rfl, rfl⟩
    go_wp2_with fail
    refine (q2.out _).mono ?_
    rintro e w2 ⟨rfl, rfl⟩
    go_wp2
    go_ret
    exact ⟨ret_bool hR.out, hB.out⟩
  have hR : Hid (true = letB x y c d n) := Lib.hid (by unfold letB; simp only [h0, h1, h2, h3, Bool.true_and, Bool.false_and, Bool.and_true, Bool.and_false, decide_true, decide_false])
  go_enter Tryz.func88, Tryz.ntmps88
  go_wp2_with fail
  refine (q0.out _).mono ?_
  rintro e w0 ⟨rfl, rfl⟩
  go_wp2_with fail
  refine (q1.out _).mono ?_
  rintro e w1 ⟨rfl, rfl⟩
  go_wp2_with fail
  refine (q2.out _).mono ?_
  rintro e w2 ⟨rfl, rfl⟩
  go_wp2
  go_ret
  exact ⟨ret_bool hR.out, hB.out⟩
set_option maxRecDepth 100000 in
theorem rightAny_any (k x y c d n : Int) (w : World) : Calls Tryz.prog 90 #[.agg #[.int .i64 k, .int .i64 x, .int .i64 y, .int .i64 c, .int .i64 d], .int .i64 n] w (Gives (.bool (anyB x y c d n)) w) := by
  have hB := Lib.hid ((Below.refl w.heap.size w).alloc (Nat.le_refl _) (.cells #[.int .i64 k, .int .i64 x, .int .i64 y, .int .i64 c, .int .i64 d] 51))
  have q0 := Lib.hid (fun W => isVar_any x n W)
  cases h0 : isVarB x n
  · rw [h0] at q0
    have hR : Hid (false = anyB x y c d n) := Lib.hid (by unfold anyB; simp only [h0, Bool.true_and, Bool.false_and, Bool.and_true, Bool.and_false, decide_true, decide_false])
    go_enter Tryz.func90, Tryz.ntmps90
    go_wp2_with fail
    refine (q0.out _).mono ?_
    rintro e w0 ⟨rfl, rfl⟩
    go_wp2
    go_ret
    exact ⟨ret_bool hR.out, hB.out⟩
  rw [h0] at q0
  cases h1 : (y == 0)
  · have hR : Hid (false = anyB x y c d n) := Lib.hid (by unfold anyB; simp only [h0, h1, Bool.true_and, Bool.false_and, Bool.and_true, Bool.and_false, decide_true, decide_false])
    go_enter Tryz.func90, Tryz.ntmps90
    go_wp2_with fail
    refine (q0.out _).mono ?_
    rintro e w0 ⟨rfl, rfl⟩
    go_wp2
    go_ret
    exact ⟨ret_bool hR.out, hB.out⟩
  have q2 := Lib.hid (fun W => pis_any c W)
  cases h2 : isValB c
  · rw [h2] at q2
    have hR : Hid (false = anyB x y c d n) := Lib.hid (by unfold anyB; simp only [h0, h1, h2, Bool.true_and, Bool.false_and, Bool.and_true, Bool.and_false, decide_true, decide_false])
    go_enter Tryz.func90, Tryz.ntmps90
    go_wp2_with fail
    refine (q0.out _).mono ?_
    rintro e w0 ⟨rfl, rfl⟩
    go_wp2_with fail
    refine (q2.out _).mono ?_
    rintro e w2 ⟨rfl, rfl⟩
    go_wp2
    go_ret
    exact ⟨ret_bool hR.out, hB.out⟩
  rw [h2] at q2
  have q3 := Lib.hid (fun W => pis_any d W)
  cases h3 : isValB d
  · rw [h3] at q3
    have hR : Hid (false = anyB x y c d n) := Lib.hid (by unfold anyB; simp only [h0, h1, h2, h3, Bool.true_and, Bool.false_and, Bool.and_true, Bool.and_false, decide_true, decide_false])
    go_enter Tryz.func90, Tryz.ntmps90
    go_wp2_with fail
    refine (q0.out _).mono ?_
    rintro e w0 ⟨rfl, rfl⟩
    go_wp2_with fail
    refine (q2.out _).mono ?_
    rintro e w2 ⟨rfl, rfl⟩
    go_wp2_with fail
    refine (q3.out _).mono ?_
    rintro e w3 ⟨rfl, rfl⟩
    go_wp2
    go_ret
    exact ⟨ret_bool hR.out, hB.out⟩
  rw [h3] at q3
  cases h4 : decide (c ≤ d)
  · have h4p := of_decide_eq_false h4
    have hR : Hid (false = anyB x y c d n) := Lib.hid (by unfold anyB; simp only [h0, h1, h2, h3, h4, Bool.true_and, Bool.false_and, Bool.and_true, Bool.and_false, decide_true, decide_false])
    go_enter Tryz.func90, Tryz.ntmps90
    go_wp2_with fail
    refine (q0.out _).mono ?_
    rintro e w0 ⟨rfl, rfl⟩
    go_wp2_with fail
    refine (q2.out _).mono ?_
    rintro e w2 ⟨rfl, rfl⟩
    go_wp2_with fail
    refine (q3.out _).mono ?_
    rintro e w3 ⟨rfl, rfl⟩
    go_wp2
    go_ret
    exact ⟨ret_bool hR.out, hB.out⟩
  have h4p := of_decide_eq_true h4
  have hR : Hid (true = anyB x y c d n) := Lib.hid (by unfold anyB; simp only [h0, h1, h2, h3, h4, Bool.true_and, Bool.false_and, Bool.and_true, Bool.and_false, decide_true, decide_false])
  go_enter Tryz.func90, Tryz.ntmps90
  go_wp2_with fail
  refine (q0.out _).mono ?_
  rintro e w0 ⟨rfl, rfl⟩
  go_wp2_with fail
  refine (q2.out _).mono ?_
  rintro e w2 ⟨rfl, rfl⟩
  go_wp2_with fail
  refine (q3.out _).mono ?_
  rintro e w3 ⟨rfl, rfl⟩
  go_wp2
  go_ret
  exact ⟨ret_bool hR.out, hB.out⟩
set_option maxRecDepth 100000 in
theorem rightDiff_any (k x y c d n : Int) (w : World) : Calls Tryz.prog 92 #[.agg #[.int .i64 k, .int .i64 x, .int .i64 y, .int .i64 c, .int .i64 d], .int .i64 n] w (Gives (.bool (diffB x y c d n)) w) := by
  have hB := Lib.hid ((Below.refl w.heap.size w).alloc (Nat.le_refl _) (.cells #[.int .i64 k, .int .i64 x, .int .i64 y, .int .i64 c, .int .i64 d] 51))
  have q0 := Lib.hid (fun W => isTerm_any x n W)
  cases h0 : isTermB x n
  · rw [h0] at q0
    have hR : Hid (false = diffB x y c d n) := Lib.hid (by unfold diffB; simp only [h0, Bool.true_and, Bool.false_and, Bool.and_true, Bool.and_false, decide_true, decide_false])
    go_enter Tryz.func92, Tryz.ntmps92
    go_wp2_with fail
    refine (q0.out _).mono ?_
    rintro e w0 ⟨rfl, rfl⟩
    go_wp2
    go_ret
    exact ⟨ret_bool hR.out, hB.out⟩
  rw [h0] at q0
  have q1 := Lib.hid (fun W => isTerm_any y n W)
  cases h1 : isTermB y n
  · rw [h1] at q1
    have hR : Hid (false = diffB x y c d n) := Lib.hid (by unfold diffB; simp only [h0, h1, Bool.true_and, Bool.false_and, Bool.and_true, Bool.and_false, decide_true, decide_false])
    go_enter Tryz.func92, Tryz.ntmps92
    go_wp2_with fail
    refine (q0.out _).mono ?_
    rintro e w0 ⟨rfl, rfl⟩
    go_wp2_with fail
    refine (q1.out _).mono ?_
    rintro e w1 ⟨rfl, rfl⟩
    go_wp2
    go_ret
    exact ⟨ret_bool hR.out, hB.out⟩
  rw [h1] at q1
  cases h2 : (x != y)
  · have hR : Hid (false = diffB x y c d n) := Lib.hid (by unfold diffB; simp only [h0, h1, h2, Bool.true_and, Bool.false_and, Bool.and_true, Bool.and_false, decide_true, decide_false])
    go_enter Tryz.func92, Tryz.ntmps92
    go_wp2_with fail
    refine (q0.out _).mono ?_
    rintro e w0 ⟨rfl, rfl⟩
    go_wp2_with fail
    refine (q1.out _).mono ?_
    rintro e w1 ⟨rfl, rfl⟩
    go_wp2
    go_ret
    exact ⟨ret_bool hR.out, hB.out⟩
  have q3 := Lib.hid (fun W => pis_any c W)
  cases h3 : isValB c
  · rw [h3] at q3
    have hR : Hid (false = diffB x y c d n) := Lib.hid (by unfold diffB; simp only [h0, h1, h2, h3, Bool.true_and, Bool.false_and, Bool.and_true, Bool.and_false, decide_true, decide_false])
    go_enter Tryz.func92, Tryz.ntmps92
    go_wp2_with fail
    refine (q0.out _).mono ?_
    rintro e w0 ⟨rfl, rfl⟩
    go_wp2_with fail
    refine (q1.out _).mono ?_
    rintro e w1 ⟨rfl, rfl⟩
    go_wp2_with fail
    refine (q3.out _).mono ?_
    rintro e w3 ⟨rfl, rfl⟩
    go_wp2
    go_ret
    exact ⟨ret_bool hR.out, hB.out⟩
  rw [h3] at q3
  cases h4 : (d == 0)
  · have hR : Hid (false = diffB x y c d n) := Lib.hid (by unfold diffB; simp only [h0, h1, h2, h3, h4, Bool.true_and, Bool.false_and, Bool.and_true, Bool.and_false, decide_true, decide_false])
    go_enter Tryz.func92, Tryz.ntmps92
    go_wp2_with fail
    refine (q0.out _).mono ?_
    rintro e w0 ⟨rfl, rfl⟩
    go_wp2_with fail
    refine (q1.out _).mono ?_
    rintro e w1 ⟨rfl, rfl⟩
    go_wp2_with fail
    refine (q3.out _).mono ?_
    rintro e w3 ⟨rfl, rfl⟩
    go_wp2
    go_ret
    exact ⟨ret_bool hR.out, hB.out⟩
  have hR : Hid (true = diffB x y c d n) := Lib.hid (by unfold diffB; simp only [h0, h1, h2, h3, h4, Bool.true_and, Bool.false_and, Bool.and_true, Bool.and_false, decide_true, decide_false])
  go_enter Tryz.func92, Tryz.ntmps92
  go_wp2_with fail
  refine (q0.out _).mono ?_
  rintro e w0 ⟨rfl, rfl⟩
  go_wp2_with fail
  refine (q1.out _).mono ?_
  rintro e w1 ⟨rfl, rfl⟩
  go_wp2_with fail
  refine (q3.out _).mono ?_
  rintro e w3 ⟨rfl, rfl⟩
  go_wp2
  go_ret
  exact ⟨ret_bool hR.out, hB.out⟩
def kindsA : Array Value := #[.nilFunc, .nilFunc, .func (.func 86) #[] #[], .func (.func 87) #[] #[], .func (.func 88) #[] #[], .func (.func 89) #[] #[], .func (.func 90) #[] #[], .func (.func 91) #[] #[], .func (.func 92) #[] #[], .func (.func 93) #[] #[], .func (.func 92) #[] #[], .func (.func 94) #[] #[]]
theorem info_kinds : (Tryz.prog.info? 105).map (·.size) = some 12 := by kernel_rfl
theorem kinds_any (w : World) : Calls Tryz.prog 74 #[] w (Gives (.agg kindsA) w) := by
  go_enter Tryz.func74, Tryz.ntmps74
  go_wp2
  exact bodyPost_ret (v := .agg kindsA) (results_cell_row rfl _ _ w.heap.size 105 kindsA (0, 0) _ rfl (heap_alloc_new w (.cells kindsA 105)) Tryz.underlying105 rfl (by rw [info_kinds]; rfl)) rfl ⟨rfl, (Below.refl _ _).alloc (Nat.le_refl _) _⟩
set_option maxRecDepth 100000 in
theorem right_1 (x y c d n : Int) (b : Bool) (hn0 : 0 ≤ n) (hn8 : n ≤ 8)
    (hq : ∀ W, Calls Tryz.prog 86 #[.agg #[.int .i64 1, .int .i64 x, .int .i64 y, .int .i64 c, .int .i64 d], .int .i64 n] W (Gives (.bool b) W)) (w : World) :
    Calls Tryz.prog 47 #[.agg #[.int .i64 1, .int .i64 x, .int .i64 y, .int .i64 c, .int .i64 d], .int .i64 n] w (Gives (.bool b) w) := by
  obtain ⟨W1, hW1⟩ : ∃ W1, W1 = w.alloc (.cells #[.int .i64 1, .int .i64 x, .int .i64 y, .int .i64 c, .int .i64 d] 51) := ⟨_, rfl⟩
  have hB : Below w.heap.size w W1 := by rw [hW1]; exact (Below.refl _ _).alloc (Nat.le_refl _) _
  have hH : Holds W1 w.heap.size 51 #[.int .i64 1, .int .i64 x, .int .i64 y, .int .i64 c, .int .i64 d] := by rw [hW1]; exact Holds.new _ _ _
  have hW1' := Lib.hid hW1
  have k0 := hH.cell 0
  have hB' := Lib.hid hB
  have hH' := Lib.hid hH
  have hq' := Lib.hid hq
  have hix : ∀ W, (Instr.index 105 (.agg kindsA) (.int .i64 1)).run Tryz.prog W = .ok (.agg #[.func (.func 86) #[] #[], .func (.func 87) #[] #[]]) W := fun W => by kernel_rfl
  have hfd : ∀ W, (Instr.field 104 (.agg #[.func (.func 86) #[] #[], .func (.func 87) #[] #[]]) 0).run Tryz.prog W = .ok (.func (.func 86) #[] #[]) W := fun W => by kernel_rfl
  have hn1 : ¬ n < 0 := by omega
  have hn2 : ¬ 8 < n := by omega
  clear hB hH hW1 hq hn0 hn8
  go_enter Tryz.func47, Tryz.ntmps47
  go_wp2
  rw [← hW1'.out]
  have hc0 : ∀ W, Below W1.heap.size W1 W → W.cell? ⟨w.heap.size, 0, none⟩ = some (.int .i64 1) := fun W hW => (hH'.out.below hW hH'.out.lt).cell 0
  have hc1 : ∀ W, Below W1.heap.size W1 W → W.cell? ⟨w.heap.size, 1, none⟩ = some (.int .i64 x) := fun W hW => (hH'.out.below hW hH'.out.lt).cell 1
  have hc2 : ∀ W, Below W1.heap.size W1 W → W.cell? ⟨w.heap.size, 2, none⟩ = some (.int .i64 y) := fun W hW => (hH'.out.below hW hH'.out.lt).cell 2
  have hc3 : ∀ W, Below W1.heap.size W1 W → W.cell? ⟨w.heap.size, 3, none⟩ = some (.int .i64 c) := fun W hW => (hH'.out.below hW hH'.out.lt).cell 3
  have hc4 : ∀ W, Below W1.heap.size W1 W → W.cell? ⟨w.heap.size, 4, none⟩ = some (.int .i64 d) := fun W hW => (hH'.out.below hW hH'.out.lt).cell 4
  clear k0
  refine wp_drawn_on (fun W => Below W1.heap.size W1 W) (by kernel_rfl) ((Below.refl _ _).drew) (fun hHeld => ?_)
  refine wpAnyH_take (i := 1) (oi := { dst := some 22, op := Go.Op.fieldAddr 51 (Go.Operand.tmp 2) 0, type := 0, pos := "prog.go:130", after := #[], guard := none }) (v := ?v1) rfl (by kernel_rfl) (by kernel_rfl) (by kernel_rfl) (fun _ _ _ h => h) (Or.inl ⟨by kernel_rfl, ?h1⟩) (by assumption) ?r1
  case h1 => (intro w hSw; (try dsimp only at hSw); go_simp; try with_reducible rfl)
  try simp only [Act.put, List.setIfInBounds_toArray, List.set_cons_zero, List.set_cons_succ]
  refine wpAnyH_take (i := 2) (oi := { dst := some 23, op := Go.Op.load 3 (Go.Operand.tmp 22), type := 3, pos := "prog.go:130", after := #[{ on := 1, ground := Go.Ground.data }], guard := none }) (v := ?v2) rfl (by kernel_rfl) (by kernel_rfl) (by kernel_rfl) (fun _ _ _ h => h) (Or.inl ⟨by kernel_rfl, ?h2⟩) (by assumption) ?r2
  case h2 => (intro w hSw; (try dsimp only at hSw); go_simp; try with_reducible rfl)
  try simp only [Act.put, List.setIfInBounds_toArray, List.set_cons_zero, List.set_cons_succ]
  refine wpAnyH_take (i := 5) (oi := { dst := some 26, op := Go.Op.load 51 (Go.Operand.tmp 2), type := 51, pos := "prog.go:130", after := #[], guard := none }) (v := ?v3) rfl (by kernel_rfl) (by kernel_rfl) (by kernel_rfl) (fun _ _ _ h => h) (Or.inl ⟨by kernel_rfl, ?h3⟩) (by assumption) ?r3
  case h3 => (intro w hSw; (try dsimp only at hSw); go_simp; try with_reducible rfl)
  try simp only [Act.put, List.setIfInBounds_toArray, List.set_cons_zero, List.set_cons_succ]
  refine wpAnyH_take (i := 6) (oi := { dst := some 27, op := Go.Op.move (Go.Operand.tmp 1), type := 3, pos := "prog.go:130", after := #[], guard := none }) (v := ?v4) rfl (by kernel_rfl) (by kernel_rfl) (by kernel_rfl) (fun _ _ _ h => h) (Or.inl ⟨by kernel_rfl, ?h4⟩) (by assumption) ?r4
  case h4 => (intro w hSw; (try dsimp only at hSw); go_simp; try with_reducible rfl)
  try simp only [Act.put, List.setIfInBounds_toArray, List.set_cons_zero, List.set_cons_succ]
  refine wpAnyH_ready (rs := [0]) (by kernel_rfl) (by simp) ?_
  refine AllReadyH.cons (o := { dst := some 21, op := Go.Op.call { callee := Go.Callee.value (Go.Operand.func 74), args := #[], argTypes := #[] }, type := 105, pos := "prog.go:130", after := #[], guard := none }) rfl (fun K hK => ?_) AllReadyH.nil
  go_simp
  refine (kinds_any _).mono ?_
  rintro e u0 ⟨rfl, b0⟩
  have hx0 := hHeld.trans (b0.mono hHeld.size)
  go_simp
  refine hK.out _ _ (hx0) (fun hHeld => ?_)
  clear hK K
  try simp only [Act.put, List.setIfInBounds_toArray, List.set_cons_zero, List.set_cons_succ]
  refine wpAnyH_take (i := 3) (oi := { dst := some 24, op := Go.Op.index 105 (Go.Operand.tmp 21) (Go.Operand.tmp 23), type := 104, pos := "prog.go:130", after := #[{ on := 0, ground := Go.Ground.data }, { on := 2, ground := Go.Ground.data }], guard := none }) (v := ?v5) rfl (by kernel_rfl) (by kernel_rfl) (by kernel_rfl) (fun _ _ _ h => h) (Or.inl ⟨by kernel_rfl, ?h5⟩) (by assumption) ?r5
  case h5 => (intro w hSw; (try dsimp only at hSw); go_simp; try with_reducible rfl)
  try simp only [Act.put, List.setIfInBounds_toArray, List.set_cons_zero, List.set_cons_succ]
  refine wpAnyH_take (i := 4) (oi := { dst := some 25, op := Go.Op.field 104 (Go.Operand.tmp 24) 0, type := 54, pos := "prog.go:130", after := #[{ on := 3, ground := Go.Ground.data }], guard := none }) (v := ?v6) rfl (by kernel_rfl) (by kernel_rfl) (by kernel_rfl) (fun _ _ _ h => h) (Or.inl ⟨by kernel_rfl, ?h6⟩) (by assumption) ?r6
  case h6 => (intro w hSw; (try dsimp only at hSw); go_simp; try with_reducible rfl)
  try simp only [Act.put, List.setIfInBounds_toArray, List.set_cons_zero, List.set_cons_succ]
  refine wpAnyH_ready (rs := [7]) (by kernel_rfl) (by simp) ?_
  refine AllReadyH.cons (o := { dst := some 28, op := Go.Op.call { callee := Go.Callee.value (Go.Operand.tmp 25), args := #[Go.Operand.tmp 26, Go.Operand.tmp 27], argTypes := #[51, 3] }, type := 4, pos := "prog.go:130", after := #[{ on := 4, ground := Go.Ground.data }, { on := 5, ground := Go.Ground.data }, { on := 6, ground := Go.Ground.data }, { on := 0, ground := Go.Ground.chain }], guard := none }) rfl (fun K hK => ?_) AllReadyH.nil
  go_simp
  refine (hq'.out _).mono ?_
  rintro e u7 ⟨rfl, b7⟩
  have hx7 := hHeld.trans (b7.mono hHeld.size)
  go_simp
  refine hK.out _ _ (hx7) (fun hHeld => ?_)
  clear hK K
  try simp only [Act.put, List.setIfInBounds_toArray, List.set_cons_zero, List.set_cons_succ]
  refine wpAnyH_take (i := 8) (oi := { dst := some 4, op := Go.Op.assign (Go.Operand.tmp 28), type := 4, pos := "prog.go:130", after := #[{ on := 7, ground := Go.Ground.data }, { on := 7, ground := Go.Ground.chain }, { on := 0, ground := Go.Ground.phase }, { on := 1, ground := Go.Ground.phase }, { on := 2, ground := Go.Ground.phase }, { on := 3, ground := Go.Ground.phase }, { on := 4, ground := Go.Ground.phase }, { on := 5, ground := Go.Ground.phase }, { on := 6, ground := Go.Ground.phase }, { on := 7, ground := Go.Ground.phase }], guard := none }) (v := ?v7) rfl (by kernel_rfl) (by kernel_rfl) (by kernel_rfl) (fun _ _ _ h => h) (Or.inl ⟨by kernel_rfl, ?h7⟩) (by assumption) ?r7
  case h7 => (intro w hSw; (try dsimp only at hSw); go_simp; try with_reducible rfl)
  try simp only [Act.put, List.setIfInBounds_toArray, List.set_cons_zero, List.set_cons_succ]
  refine wpAnyH_done (by kernel_rfl) ?_ _
  have hx := Lib.hid hHeld
  go_wp2
  go_ret
  exact ⟨rfl, hB'.out.trans (hx.out.mono hB'.out.size)⟩
set_option maxRecDepth 100000 in
theorem right_2 (x y c d n : Int) (b : Bool) (hn0 : 0 ≤ n) (hn8 : n ≤ 8)
    (hq : ∀ W, Calls Tryz.prog 88 #[.agg #[.int .i64 2, .int .i64 x, .int .i64 y, .int .i64 c, .int .i64 d], .int .i64 n] W (Gives (.bool b) W)) (w : World) :
    Calls Tryz.prog 47 #[.agg #[.int .i64 2, .int .i64 x, .int .i64 y, .int .i64 c, .int .i64 d], .int .i64 n] w (Gives (.bool b) w) := by
  obtain ⟨W1, hW1⟩ : ∃ W1, W1 = w.alloc (.cells #[.int .i64 2, .int .i64 x, .int .i64 y, .int .i64 c, .int .i64 d] 51) := ⟨_, rfl⟩
  have hB : Below w.heap.size w W1 := by rw [hW1]; exact (Below.refl _ _).alloc (Nat.le_refl _) _
  have hH : Holds W1 w.heap.size 51 #[.int .i64 2, .int .i64 x, .int .i64 y, .int .i64 c, .int .i64 d] := by rw [hW1]; exact Holds.new _ _ _
  have hW1' := Lib.hid hW1
  have k0 := hH.cell 0
  have hB' := Lib.hid hB
  have hH' := Lib.hid hH
  have hq' := Lib.hid hq
  have hix : ∀ W, (Instr.index 105 (.agg kindsA) (.int .i64 2)).run Tryz.prog W = .ok (.agg #[.func (.func 88) #[] #[], .func (.func 89) #[] #[]]) W := fun W => by kernel_rfl
  have hfd : ∀ W, (Instr.field 104 (.agg #[.func (.func 88) #[] #[], .func (.func 89) #[] #[]]) 0).run Tryz.prog W = .ok (.func (.func 88) #[] #[]) W := fun W => by kernel_rfl
  have hn1 : ¬ n < 0 := by omega
  have hn2 : ¬ 8 < n := by omega
  clear hB hH hW1 hq hn0 hn8
  go_enter Tryz.func47, Tryz.ntmps47
  go_wp2
  rw [← hW1'.out]
  have hc0 : ∀ W, Below W1.heap.size W1 W → W.cell? ⟨w.heap.size, 0, none⟩ = some (.int .i64 2) := fun W hW => (hH'.out.below hW hH'.out.lt).cell 0
  have hc1 : ∀ W, Below W1.heap.size W1 W → W.cell? ⟨w.heap.size, 1, none⟩ = some (.int .i64 x) := fun W hW => (hH'.out.below hW hH'.out.lt).cell 1
  have hc2 : ∀ W, Below W1.heap.size W1 W → W.cell? ⟨w.heap.size, 2, none⟩ = some (.int .i64 y) := fun W hW => (hH'.out.below hW hH'.out.lt).cell 2
  have hc3 : ∀ W, Below W1.heap.size W1 W → W.cell? ⟨w.heap.size, 3, none⟩ = some (.int .i64 c) := fun W hW => (hH'.out.below hW hH'.out.lt).cell 3
  have hc4 : ∀ W, Below W1.heap.size W1 W → W.cell? ⟨w.heap.size, 4, none⟩ = some (.int .i64 d) := fun W hW => (hH'.out.below hW hH'.out.lt).cell 4
  clear k0
  refine wp_drawn_on (fun W => Below W1.heap.size W1 W) (by kernel_rfl) ((Below.refl _ _).drew) (fun hHeld => ?_)
  refine wpAnyH_take (i := 1) (oi := { dst := some 22, op := Go.Op.fieldAddr 51 (Go.Operand.tmp 2) 0, type := 0, pos := "prog.go:130", after := #[], guard := none }) (v := ?v8) rfl (by kernel_rfl) (by kernel_rfl) (by kernel_rfl) (fun _ _ _ h => h) (Or.inl ⟨by kernel_rfl, ?h8⟩) (by assumption) ?r8
  case h8 => (intro w hSw; (try dsimp only at hSw); go_simp; try with_reducible rfl)
  try simp only [Act.put, List.setIfInBounds_toArray, List.set_cons_zero, List.set_cons_succ]
  refine wpAnyH_take (i := 2) (oi := { dst := some 23, op := Go.Op.load 3 (Go.Operand.tmp 22), type := 3, pos := "prog.go:130", after := #[{ on := 1, ground := Go.Ground.data }], guard := none }) (v := ?v9) rfl (by kernel_rfl) (by kernel_rfl) (by kernel_rfl) (fun _ _ _ h => h) (Or.inl ⟨by kernel_rfl, ?h9⟩) (by assumption) ?r9
  case h9 => (intro w hSw; (try dsimp only at hSw); go_simp; try with_reducible rfl)
  try simp only [Act.put, List.setIfInBounds_toArray, List.set_cons_zero, List.set_cons_succ]
  refine wpAnyH_take (i := 5) (oi := { dst := some 26, op := Go.Op.load 51 (Go.Operand.tmp 2), type := 51, pos := "prog.go:130", after := #[], guard := none }) (v := ?v10) rfl (by kernel_rfl) (by kernel_rfl) (by kernel_rfl) (fun _ _ _ h => h) (Or.inl ⟨by kernel_rfl, ?h10⟩) (by assumption) ?r10
  case h10 => (intro w hSw; (try dsimp only at hSw); go_simp; try with_reducible rfl)
  try simp only [Act.put, List.setIfInBounds_toArray, List.set_cons_zero, List.set_cons_succ]
  refine wpAnyH_take (i := 6) (oi := { dst := some 27, op := Go.Op.move (Go.Operand.tmp 1), type := 3, pos := "prog.go:130", after := #[], guard := none }) (v := ?v11) rfl (by kernel_rfl) (by kernel_rfl) (by kernel_rfl) (fun _ _ _ h => h) (Or.inl ⟨by kernel_rfl, ?h11⟩) (by assumption) ?r11
  case h11 => (intro w hSw; (try dsimp only at hSw); go_simp; try with_reducible rfl)
  try simp only [Act.put, List.setIfInBounds_toArray, List.set_cons_zero, List.set_cons_succ]
  refine wpAnyH_ready (rs := [0]) (by kernel_rfl) (by simp) ?_
  refine AllReadyH.cons (o := { dst := some 21, op := Go.Op.call { callee := Go.Callee.value (Go.Operand.func 74), args := #[], argTypes := #[] }, type := 105, pos := "prog.go:130", after := #[], guard := none }) rfl (fun K hK => ?_) AllReadyH.nil
  go_simp
  refine (kinds_any _).mono ?_
  rintro e u0 ⟨rfl, b0⟩
  have hx0 := hHeld.trans (b0.mono hHeld.size)
  go_simp
  refine hK.out _ _ (hx0) (fun hHeld => ?_)
  clear hK K
  try simp only [Act.put, List.setIfInBounds_toArray, List.set_cons_zero, List.set_cons_succ]
  refine wpAnyH_take (i := 3) (oi := { dst := some 24, op := Go.Op.index 105 (Go.Operand.tmp 21) (Go.Operand.tmp 23), type := 104, pos := "prog.go:130", after := #[{ on := 0, ground := Go.Ground.data }, { on := 2, ground := Go.Ground.data }], guard := none }) (v := ?v12) rfl (by kernel_rfl) (by kernel_rfl) (by kernel_rfl) (fun _ _ _ h => h) (Or.inl ⟨by kernel_rfl, ?h12⟩) (by assumption) ?r12
  case h12 => (intro w hSw; (try dsimp only at hSw); go_simp; try with_reducible rfl)
  try simp only [Act.put, List.setIfInBounds_toArray, List.set_cons_zero, List.set_cons_succ]
  refine wpAnyH_take (i := 4) (oi := { dst := some 25, op := Go.Op.field 104 (Go.Operand.tmp 24) 0, type := 54, pos := "prog.go:130", after := #[{ on := 3, ground := Go.Ground.data }], guard := none }) (v := ?v13) rfl (by kernel_rfl) (by kernel_rfl) (by kernel_rfl) (fun _ _ _ h => h) (Or.inl ⟨by kernel_rfl, ?h13⟩) (by assumption) ?r13
  case h13 => (intro w hSw; (try dsimp only at hSw); go_simp; try with_reducible rfl)
  try simp only [Act.put, List.setIfInBounds_toArray, List.set_cons_zero, List.set_cons_succ]
  refine wpAnyH_ready (rs := [7]) (by kernel_rfl) (by simp) ?_
  refine AllReadyH.cons (o := { dst := some 28, op := Go.Op.call { callee := Go.Callee.value (Go.Operand.tmp 25), args := #[Go.Operand.tmp 26, Go.Operand.tmp 27], argTypes := #[51, 3] }, type := 4, pos := "prog.go:130", after := #[{ on := 4, ground := Go.Ground.data }, { on := 5, ground := Go.Ground.data }, { on := 6, ground := Go.Ground.data }, { on := 0, ground := Go.Ground.chain }], guard := none }) rfl (fun K hK => ?_) AllReadyH.nil
  go_simp
  refine (hq'.out _).mono ?_
  rintro e u7 ⟨rfl, b7⟩
  have hx7 := hHeld.trans (b7.mono hHeld.size)
  go_simp
  refine hK.out _ _ (hx7) (fun hHeld => ?_)
  clear hK K
  try simp only [Act.put, List.setIfInBounds_toArray, List.set_cons_zero, List.set_cons_succ]
  refine wpAnyH_take (i := 8) (oi := { dst := some 4, op := Go.Op.assign (Go.Operand.tmp 28), type := 4, pos := "prog.go:130", after := #[{ on := 7, ground := Go.Ground.data }, { on := 7, ground := Go.Ground.chain }, { on := 0, ground := Go.Ground.phase }, { on := 1, ground := Go.Ground.phase }, { on := 2, ground := Go.Ground.phase }, { on := 3, ground := Go.Ground.phase }, { on := 4, ground := Go.Ground.phase }, { on := 5, ground := Go.Ground.phase }, { on := 6, ground := Go.Ground.phase }, { on := 7, ground := Go.Ground.phase }], guard := none }) (v := ?v14) rfl (by kernel_rfl) (by kernel_rfl) (by kernel_rfl) (fun _ _ _ h => h) (Or.inl ⟨by kernel_rfl, ?h14⟩) (by assumption) ?r14
  case h14 => (intro w hSw; (try dsimp only at hSw); go_simp; try with_reducible rfl)
  try simp only [Act.put, List.setIfInBounds_toArray, List.set_cons_zero, List.set_cons_succ]
  refine wpAnyH_done (by kernel_rfl) ?_ _
  have hx := Lib.hid hHeld
  go_wp2
  go_ret
  exact ⟨rfl, hB'.out.trans (hx.out.mono hB'.out.size)⟩
set_option maxRecDepth 100000 in
theorem right_3 (x y c d n : Int) (b : Bool) (hn0 : 0 ≤ n) (hn8 : n ≤ 8)
    (hq : ∀ W, Calls Tryz.prog 90 #[.agg #[.int .i64 3, .int .i64 x, .int .i64 y, .int .i64 c, .int .i64 d], .int .i64 n] W (Gives (.bool b) W)) (w : World) :
    Calls Tryz.prog 47 #[.agg #[.int .i64 3, .int .i64 x, .int .i64 y, .int .i64 c, .int .i64 d], .int .i64 n] w (Gives (.bool b) w) := by
  obtain ⟨W1, hW1⟩ : ∃ W1, W1 = w.alloc (.cells #[.int .i64 3, .int .i64 x, .int .i64 y, .int .i64 c, .int .i64 d] 51) := ⟨_, rfl⟩
  have hB : Below w.heap.size w W1 := by rw [hW1]; exact (Below.refl _ _).alloc (Nat.le_refl _) _
  have hH : Holds W1 w.heap.size 51 #[.int .i64 3, .int .i64 x, .int .i64 y, .int .i64 c, .int .i64 d] := by rw [hW1]; exact Holds.new _ _ _
  have hW1' := Lib.hid hW1
  have k0 := hH.cell 0
  have hB' := Lib.hid hB
  have hH' := Lib.hid hH
  have hq' := Lib.hid hq
  have hix : ∀ W, (Instr.index 105 (.agg kindsA) (.int .i64 3)).run Tryz.prog W = .ok (.agg #[.func (.func 90) #[] #[], .func (.func 91) #[] #[]]) W := fun W => by kernel_rfl
  have hfd : ∀ W, (Instr.field 104 (.agg #[.func (.func 90) #[] #[], .func (.func 91) #[] #[]]) 0).run Tryz.prog W = .ok (.func (.func 90) #[] #[]) W := fun W => by kernel_rfl
  have hn1 : ¬ n < 0 := by omega
  have hn2 : ¬ 8 < n := by omega
  clear hB hH hW1 hq hn0 hn8
  go_enter Tryz.func47, Tryz.ntmps47
  go_wp2
  rw [← hW1'.out]
  have hc0 : ∀ W, Below W1.heap.size W1 W → W.cell? ⟨w.heap.size, 0, none⟩ = some (.int .i64 3) := fun W hW => (hH'.out.below hW hH'.out.lt).cell 0
  have hc1 : ∀ W, Below W1.heap.size W1 W → W.cell? ⟨w.heap.size, 1, none⟩ = some (.int .i64 x) := fun W hW => (hH'.out.below hW hH'.out.lt).cell 1
  have hc2 : ∀ W, Below W1.heap.size W1 W → W.cell? ⟨w.heap.size, 2, none⟩ = some (.int .i64 y) := fun W hW => (hH'.out.below hW hH'.out.lt).cell 2
  have hc3 : ∀ W, Below W1.heap.size W1 W → W.cell? ⟨w.heap.size, 3, none⟩ = some (.int .i64 c) := fun W hW => (hH'.out.below hW hH'.out.lt).cell 3
  have hc4 : ∀ W, Below W1.heap.size W1 W → W.cell? ⟨w.heap.size, 4, none⟩ = some (.int .i64 d) := fun W hW => (hH'.out.below hW hH'.out.lt).cell 4
  clear k0
  refine wp_drawn_on (fun W => Below W1.heap.size W1 W) (by kernel_rfl) ((Below.refl _ _).drew) (fun hHeld => ?_)
  refine wpAnyH_take (i := 1) (oi := { dst := some 22, op := Go.Op.fieldAddr 51 (Go.Operand.tmp 2) 0, type := 0, pos := "prog.go:130", after := #[], guard := none }) (v := ?v15) rfl (by kernel_rfl) (by kernel_rfl) (by kernel_rfl) (fun _ _ _ h => h) (Or.inl ⟨by kernel_rfl, ?h15⟩) (by assumption) ?r15
  case h15 => (intro w hSw; (try dsimp only at hSw); go_simp; try with_reducible rfl)
  try simp only [Act.put, List.setIfInBounds_toArray, List.set_cons_zero, List.set_cons_succ]
  refine wpAnyH_take (i := 2) (oi := { dst := some 23, op := Go.Op.load 3 (Go.Operand.tmp 22), type := 3, pos := "prog.go:130", after := #[{ on := 1, ground := Go.Ground.data }], guard := none }) (v := ?v16) rfl (by kernel_rfl) (by kernel_rfl) (by kernel_rfl) (fun _ _ _ h => h) (Or.inl ⟨by kernel_rfl, ?h16⟩) (by assumption) ?r16
  case h16 => (intro w hSw; (try dsimp only at hSw); go_simp; try with_reducible rfl)
  try simp only [Act.put, List.setIfInBounds_toArray, List.set_cons_zero, List.set_cons_succ]
  refine wpAnyH_take (i := 5) (oi := { dst := some 26, op := Go.Op.load 51 (Go.Operand.tmp 2), type := 51, pos := "prog.go:130", after := #[], guard := none }) (v := ?v17) rfl (by kernel_rfl) (by kernel_rfl) (by kernel_rfl) (fun _ _ _ h => h) (Or.inl ⟨by kernel_rfl, ?h17⟩) (by assumption) ?r17
  case h17 => (intro w hSw; (try dsimp only at hSw); go_simp; try with_reducible rfl)
  try simp only [Act.put, List.setIfInBounds_toArray, List.set_cons_zero, List.set_cons_succ]
  refine wpAnyH_take (i := 6) (oi := { dst := some 27, op := Go.Op.move (Go.Operand.tmp 1), type := 3, pos := "prog.go:130", after := #[], guard := none }) (v := ?v18) rfl (by kernel_rfl) (by kernel_rfl) (by kernel_rfl) (fun _ _ _ h => h) (Or.inl ⟨by kernel_rfl, ?h18⟩) (by assumption) ?r18
  case h18 => (intro w hSw; (try dsimp only at hSw); go_simp; try with_reducible rfl)
  try simp only [Act.put, List.setIfInBounds_toArray, List.set_cons_zero, List.set_cons_succ]
  refine wpAnyH_ready (rs := [0]) (by kernel_rfl) (by simp) ?_
  refine AllReadyH.cons (o := { dst := some 21, op := Go.Op.call { callee := Go.Callee.value (Go.Operand.func 74), args := #[], argTypes := #[] }, type := 105, pos := "prog.go:130", after := #[], guard := none }) rfl (fun K hK => ?_) AllReadyH.nil
  go_simp
  refine (kinds_any _).mono ?_
  rintro e u0 ⟨rfl, b0⟩
  have hx0 := hHeld.trans (b0.mono hHeld.size)
  go_simp
  refine hK.out _ _ (hx0) (fun hHeld => ?_)
  clear hK K
  try simp only [Act.put, List.setIfInBounds_toArray, List.set_cons_zero, List.set_cons_succ]
  refine wpAnyH_take (i := 3) (oi := { dst := some 24, op := Go.Op.index 105 (Go.Operand.tmp 21) (Go.Operand.tmp 23), type := 104, pos := "prog.go:130", after := #[{ on := 0, ground := Go.Ground.data }, { on := 2, ground := Go.Ground.data }], guard := none }) (v := ?v19) rfl (by kernel_rfl) (by kernel_rfl) (by kernel_rfl) (fun _ _ _ h => h) (Or.inl ⟨by kernel_rfl, ?h19⟩) (by assumption) ?r19
  case h19 => (intro w hSw; (try dsimp only at hSw); go_simp; try with_reducible rfl)
  try simp only [Act.put, List.setIfInBounds_toArray, List.set_cons_zero, List.set_cons_succ]
  refine wpAnyH_take (i := 4) (oi := { dst := some 25, op := Go.Op.field 104 (Go.Operand.tmp 24) 0, type := 54, pos := "prog.go:130", after := #[{ on := 3, ground := Go.Ground.data }], guard := none }) (v := ?v20) rfl (by kernel_rfl) (by kernel_rfl) (by kernel_rfl) (fun _ _ _ h => h) (Or.inl ⟨by kernel_rfl, ?h20⟩) (by assumption) ?r20
  case h20 => (intro w hSw; (try dsimp only at hSw); go_simp; try with_reducible rfl)
  try simp only [Act.put, List.setIfInBounds_toArray, List.set_cons_zero, List.set_cons_succ]
  refine wpAnyH_ready (rs := [7]) (by kernel_rfl) (by simp) ?_
  refine AllReadyH.cons (o := { dst := some 28, op := Go.Op.call { callee := Go.Callee.value (Go.Operand.tmp 25), args := #[Go.Operand.tmp 26, Go.Operand.tmp 27], argTypes := #[51, 3] }, type := 4, pos := "prog.go:130", after := #[{ on := 4, ground := Go.Ground.data }, { on := 5, ground := Go.Ground.data }, { on := 6, ground := Go.Ground.data }, { on := 0, ground := Go.Ground.chain }], guard := none }) rfl (fun K hK => ?_) AllReadyH.nil
  go_simp
  refine (hq'.out _).mono ?_
  rintro e u7 ⟨rfl, b7⟩
  have hx7 := hHeld.trans (b7.mono hHeld.size)
  go_simp
  refine hK.out _ _ (hx7) (fun hHeld => ?_)
  clear hK K
  try simp only [Act.put, List.setIfInBounds_toArray, List.set_cons_zero, List.set_cons_succ]
  refine wpAnyH_take (i := 8) (oi := { dst := some 4, op := Go.Op.assign (Go.Operand.tmp 28), type := 4, pos := "prog.go:130", after := #[{ on := 7, ground := Go.Ground.data }, { on := 7, ground := Go.Ground.chain }, { on := 0, ground := Go.Ground.phase }, { on := 1, ground := Go.Ground.phase }, { on := 2, ground := Go.Ground.phase }, { on := 3, ground := Go.Ground.phase }, { on := 4, ground := Go.Ground.phase }, { on := 5, ground := Go.Ground.phase }, { on := 6, ground := Go.Ground.phase }, { on := 7, ground := Go.Ground.phase }], guard := none }) (v := ?v21) rfl (by kernel_rfl) (by kernel_rfl) (by kernel_rfl) (fun _ _ _ h => h) (Or.inl ⟨by kernel_rfl, ?h21⟩) (by assumption) ?r21
  case h21 => (intro w hSw; (try dsimp only at hSw); go_simp; try with_reducible rfl)
  try simp only [Act.put, List.setIfInBounds_toArray, List.set_cons_zero, List.set_cons_succ]
  refine wpAnyH_done (by kernel_rfl) ?_ _
  have hx := Lib.hid hHeld
  go_wp2
  go_ret
  exact ⟨rfl, hB'.out.trans (hx.out.mono hB'.out.size)⟩
set_option maxRecDepth 100000 in
theorem right_4 (x y c d n : Int) (b : Bool) (hn0 : 0 ≤ n) (hn8 : n ≤ 8)
    (hq : ∀ W, Calls Tryz.prog 92 #[.agg #[.int .i64 4, .int .i64 x, .int .i64 y, .int .i64 c, .int .i64 d], .int .i64 n] W (Gives (.bool b) W)) (w : World) :
    Calls Tryz.prog 47 #[.agg #[.int .i64 4, .int .i64 x, .int .i64 y, .int .i64 c, .int .i64 d], .int .i64 n] w (Gives (.bool b) w) := by
  obtain ⟨W1, hW1⟩ : ∃ W1, W1 = w.alloc (.cells #[.int .i64 4, .int .i64 x, .int .i64 y, .int .i64 c, .int .i64 d] 51) := ⟨_, rfl⟩
  have hB : Below w.heap.size w W1 := by rw [hW1]; exact (Below.refl _ _).alloc (Nat.le_refl _) _
  have hH : Holds W1 w.heap.size 51 #[.int .i64 4, .int .i64 x, .int .i64 y, .int .i64 c, .int .i64 d] := by rw [hW1]; exact Holds.new _ _ _
  have hW1' := Lib.hid hW1
  have k0 := hH.cell 0
  have hB' := Lib.hid hB
  have hH' := Lib.hid hH
  have hq' := Lib.hid hq
  have hix : ∀ W, (Instr.index 105 (.agg kindsA) (.int .i64 4)).run Tryz.prog W = .ok (.agg #[.func (.func 92) #[] #[], .func (.func 93) #[] #[]]) W := fun W => by kernel_rfl
  have hfd : ∀ W, (Instr.field 104 (.agg #[.func (.func 92) #[] #[], .func (.func 93) #[] #[]]) 0).run Tryz.prog W = .ok (.func (.func 92) #[] #[]) W := fun W => by kernel_rfl
  have hn1 : ¬ n < 0 := by omega
  have hn2 : ¬ 8 < n := by omega
  clear hB hH hW1 hq hn0 hn8
  go_enter Tryz.func47, Tryz.ntmps47
  go_wp2
  rw [← hW1'.out]
  have hc0 : ∀ W, Below W1.heap.size W1 W → W.cell? ⟨w.heap.size, 0, none⟩ = some (.int .i64 4) := fun W hW => (hH'.out.below hW hH'.out.lt).cell 0
  have hc1 : ∀ W, Below W1.heap.size W1 W → W.cell? ⟨w.heap.size, 1, none⟩ = some (.int .i64 x) := fun W hW => (hH'.out.below hW hH'.out.lt).cell 1
  have hc2 : ∀ W, Below W1.heap.size W1 W → W.cell? ⟨w.heap.size, 2, none⟩ = some (.int .i64 y) := fun W hW => (hH'.out.below hW hH'.out.lt).cell 2
  have hc3 : ∀ W, Below W1.heap.size W1 W → W.cell? ⟨w.heap.size, 3, none⟩ = some (.int .i64 c) := fun W hW => (hH'.out.below hW hH'.out.lt).cell 3
  have hc4 : ∀ W, Below W1.heap.size W1 W → W.cell? ⟨w.heap.size, 4, none⟩ = some (.int .i64 d) := fun W hW => (hH'.out.below hW hH'.out.lt).cell 4
  clear k0
  refine wp_drawn_on (fun W => Below W1.heap.size W1 W) (by kernel_rfl) ((Below.refl _ _).drew) (fun hHeld => ?_)
  refine wpAnyH_take (i := 1) (oi := { dst := some 22, op := Go.Op.fieldAddr 51 (Go.Operand.tmp 2) 0, type := 0, pos := "prog.go:130", after := #[], guard := none }) (v := ?v22) rfl (by kernel_rfl) (by kernel_rfl) (by kernel_rfl) (fun _ _ _ h => h) (Or.inl ⟨by kernel_rfl, ?h22⟩) (by assumption) ?r22
  case h22 => (intro w hSw; (try dsimp only at hSw); go_simp; try with_reducible rfl)
  try simp only [Act.put, List.setIfInBounds_toArray, List.set_cons_zero, List.set_cons_succ]
  refine wpAnyH_take (i := 2) (oi := { dst := some 23, op := Go.Op.load 3 (Go.Operand.tmp 22), type := 3, pos := "prog.go:130", after := #[{ on := 1, ground := Go.Ground.data }], guard := none }) (v := ?v23) rfl (by kernel_rfl) (by kernel_rfl) (by kernel_rfl) (fun _ _ _ h => h) (Or.inl ⟨by kernel_rfl, ?h23⟩) (by assumption) ?r23
  case h23 => (intro w hSw; (try dsimp only at hSw); go_simp; try with_reducible rfl)
  try simp only [Act.put, List.setIfInBounds_toArray, List.set_cons_zero, List.set_cons_succ]
  refine wpAnyH_take (i := 5) (oi := { dst := some 26, op := Go.Op.load 51 (Go.Operand.tmp 2), type := 51, pos := "prog.go:130", after := #[], guard := none }) (v := ?v24) rfl (by kernel_rfl) (by kernel_rfl) (by kernel_rfl) (fun _ _ _ h => h) (Or.inl ⟨by kernel_rfl, ?h24⟩) (by assumption) ?r24
  case h24 => (intro w hSw; (try dsimp only at hSw); go_simp; try with_reducible rfl)
  try simp only [Act.put, List.setIfInBounds_toArray, List.set_cons_zero, List.set_cons_succ]
  refine wpAnyH_take (i := 6) (oi := { dst := some 27, op := Go.Op.move (Go.Operand.tmp 1), type := 3, pos := "prog.go:130", after := #[], guard := none }) (v := ?v25) rfl (by kernel_rfl) (by kernel_rfl) (by kernel_rfl) (fun _ _ _ h => h) (Or.inl ⟨by kernel_rfl, ?h25⟩) (by assumption) ?r25
  case h25 => (intro w hSw; (try dsimp only at hSw); go_simp; try with_reducible rfl)
  try simp only [Act.put, List.setIfInBounds_toArray, List.set_cons_zero, List.set_cons_succ]
  refine wpAnyH_ready (rs := [0]) (by kernel_rfl) (by simp) ?_
  refine AllReadyH.cons (o := { dst := some 21, op := Go.Op.call { callee := Go.Callee.value (Go.Operand.func 74), args := #[], argTypes := #[] }, type := 105, pos := "prog.go:130", after := #[], guard := none }) rfl (fun K hK => ?_) AllReadyH.nil
  go_simp
  refine (kinds_any _).mono ?_
  rintro e u0 ⟨rfl, b0⟩
  have hx0 := hHeld.trans (b0.mono hHeld.size)
  go_simp
  refine hK.out _ _ (hx0) (fun hHeld => ?_)
  clear hK K
  try simp only [Act.put, List.setIfInBounds_toArray, List.set_cons_zero, List.set_cons_succ]
  refine wpAnyH_take (i := 3) (oi := { dst := some 24, op := Go.Op.index 105 (Go.Operand.tmp 21) (Go.Operand.tmp 23), type := 104, pos := "prog.go:130", after := #[{ on := 0, ground := Go.Ground.data }, { on := 2, ground := Go.Ground.data }], guard := none }) (v := ?v26) rfl (by kernel_rfl) (by kernel_rfl) (by kernel_rfl) (fun _ _ _ h => h) (Or.inl ⟨by kernel_rfl, ?h26⟩) (by assumption) ?r26
  case h26 => (intro w hSw; (try dsimp only at hSw); go_simp; try with_reducible rfl)
  try simp only [Act.put, List.setIfInBounds_toArray, List.set_cons_zero, List.set_cons_succ]
  refine wpAnyH_take (i := 4) (oi := { dst := some 25, op := Go.Op.field 104 (Go.Operand.tmp 24) 0, type := 54, pos := "prog.go:130", after := #[{ on := 3, ground := Go.Ground.data }], guard := none }) (v := ?v27) rfl (by kernel_rfl) (by kernel_rfl) (by kernel_rfl) (fun _ _ _ h => h) (Or.inl ⟨by kernel_rfl, ?h27⟩) (by assumption) ?r27
  case h27 => (intro w hSw; (try dsimp only at hSw); go_simp; try with_reducible rfl)
  try simp only [Act.put, List.setIfInBounds_toArray, List.set_cons_zero, List.set_cons_succ]
  refine wpAnyH_ready (rs := [7]) (by kernel_rfl) (by simp) ?_
  refine AllReadyH.cons (o := { dst := some 28, op := Go.Op.call { callee := Go.Callee.value (Go.Operand.tmp 25), args := #[Go.Operand.tmp 26, Go.Operand.tmp 27], argTypes := #[51, 3] }, type := 4, pos := "prog.go:130", after := #[{ on := 4, ground := Go.Ground.data }, { on := 5, ground := Go.Ground.data }, { on := 6, ground := Go.Ground.data }, { on := 0, ground := Go.Ground.chain }], guard := none }) rfl (fun K hK => ?_) AllReadyH.nil
  go_simp
  refine (hq'.out _).mono ?_
  rintro e u7 ⟨rfl, b7⟩
  have hx7 := hHeld.trans (b7.mono hHeld.size)
  go_simp
  refine hK.out _ _ (hx7) (fun hHeld => ?_)
  clear hK K
  try simp only [Act.put, List.setIfInBounds_toArray, List.set_cons_zero, List.set_cons_succ]
  refine wpAnyH_take (i := 8) (oi := { dst := some 4, op := Go.Op.assign (Go.Operand.tmp 28), type := 4, pos := "prog.go:130", after := #[{ on := 7, ground := Go.Ground.data }, { on := 7, ground := Go.Ground.chain }, { on := 0, ground := Go.Ground.phase }, { on := 1, ground := Go.Ground.phase }, { on := 2, ground := Go.Ground.phase }, { on := 3, ground := Go.Ground.phase }, { on := 4, ground := Go.Ground.phase }, { on := 5, ground := Go.Ground.phase }, { on := 6, ground := Go.Ground.phase }, { on := 7, ground := Go.Ground.phase }], guard := none }) (v := ?v28) rfl (by kernel_rfl) (by kernel_rfl) (by kernel_rfl) (fun _ _ _ h => h) (Or.inl ⟨by kernel_rfl, ?h28⟩) (by assumption) ?r28
  case h28 => (intro w hSw; (try dsimp only at hSw); go_simp; try with_reducible rfl)
  try simp only [Act.put, List.setIfInBounds_toArray, List.set_cons_zero, List.set_cons_succ]
  refine wpAnyH_done (by kernel_rfl) ?_ _
  have hx := Lib.hid hHeld
  go_wp2
  go_ret
  exact ⟨rfl, hB'.out.trans (hx.out.mono hB'.out.size)⟩
set_option maxRecDepth 100000 in
theorem right_5 (x y c d n : Int) (b : Bool) (hn0 : 0 ≤ n) (hn8 : n ≤ 8)
    (hq : ∀ W, Calls Tryz.prog 92 #[.agg #[.int .i64 5, .int .i64 x, .int .i64 y, .int .i64 c, .int .i64 d], .int .i64 n] W (Gives (.bool b) W)) (w : World) :
    Calls Tryz.prog 47 #[.agg #[.int .i64 5, .int .i64 x, .int .i64 y, .int .i64 c, .int .i64 d], .int .i64 n] w (Gives (.bool b) w) := by
  obtain ⟨W1, hW1⟩ : ∃ W1, W1 = w.alloc (.cells #[.int .i64 5, .int .i64 x, .int .i64 y, .int .i64 c, .int .i64 d] 51) := ⟨_, rfl⟩
  have hB : Below w.heap.size w W1 := by rw [hW1]; exact (Below.refl _ _).alloc (Nat.le_refl _) _
  have hH : Holds W1 w.heap.size 51 #[.int .i64 5, .int .i64 x, .int .i64 y, .int .i64 c, .int .i64 d] := by rw [hW1]; exact Holds.new _ _ _
  have hW1' := Lib.hid hW1
  have k0 := hH.cell 0
  have hB' := Lib.hid hB
  have hH' := Lib.hid hH
  have hq' := Lib.hid hq
  have hix : ∀ W, (Instr.index 105 (.agg kindsA) (.int .i64 5)).run Tryz.prog W = .ok (.agg #[.func (.func 92) #[] #[], .func (.func 94) #[] #[]]) W := fun W => by kernel_rfl
  have hfd : ∀ W, (Instr.field 104 (.agg #[.func (.func 92) #[] #[], .func (.func 94) #[] #[]]) 0).run Tryz.prog W = .ok (.func (.func 92) #[] #[]) W := fun W => by kernel_rfl
  have hn1 : ¬ n < 0 := by omega
  have hn2 : ¬ 8 < n := by omega
  clear hB hH hW1 hq hn0 hn8
  go_enter Tryz.func47, Tryz.ntmps47
  go_wp2
  rw [← hW1'.out]
  have hc0 : ∀ W, Below W1.heap.size W1 W → W.cell? ⟨w.heap.size, 0, none⟩ = some (.int .i64 5) := fun W hW => (hH'.out.below hW hH'.out.lt).cell 0
  have hc1 : ∀ W, Below W1.heap.size W1 W → W.cell? ⟨w.heap.size, 1, none⟩ = some (.int .i64 x) := fun W hW => (hH'.out.below hW hH'.out.lt).cell 1
  have hc2 : ∀ W, Below W1.heap.size W1 W → W.cell? ⟨w.heap.size, 2, none⟩ = some (.int .i64 y) := fun W hW => (hH'.out.below hW hH'.out.lt).cell 2
  have hc3 : ∀ W, Below W1.heap.size W1 W → W.cell? ⟨w.heap.size, 3, none⟩ = some (.int .i64 c) := fun W hW => (hH'.out.below hW hH'.out.lt).cell 3
  have hc4 : ∀ W, Below W1.heap.size W1 W → W.cell? ⟨w.heap.size, 4, none⟩ = some (.int .i64 d) := fun W hW => (hH'.out.below hW hH'.out.lt).cell 4
  clear k0
  refine wp_drawn_on (fun W => Below W1.heap.size W1 W) (by kernel_rfl) ((Below.refl _ _).drew) (fun hHeld => ?_)
  refine wpAnyH_take (i := 1) (oi := { dst := some 22, op := Go.Op.fieldAddr 51 (Go.Operand.tmp 2) 0, type := 0, pos := "prog.go:130", after := #[], guard := none }) (v := ?v29) rfl (by kernel_rfl) (by kernel_rfl) (by kernel_rfl) (fun _ _ _ h => h) (Or.inl ⟨by kernel_rfl, ?h29⟩) (by assumption) ?r29
  case h29 => (intro w hSw; (try dsimp only at hSw); go_simp; try with_reducible rfl)
  try simp only [Act.put, List.setIfInBounds_toArray, List.set_cons_zero, List.set_cons_succ]
  refine wpAnyH_take (i := 2) (oi := { dst := some 23, op := Go.Op.load 3 (Go.Operand.tmp 22), type := 3, pos := "prog.go:130", after := #[{ on := 1, ground := Go.Ground.data }], guard := none }) (v := ?v30) rfl (by kernel_rfl) (by kernel_rfl) (by kernel_rfl) (fun _ _ _ h => h) (Or.inl ⟨by kernel_rfl, ?h30⟩) (by assumption) ?r30
  case h30 => (intro w hSw; (try dsimp only at hSw); go_simp; try with_reducible rfl)
  try simp only [Act.put, List.setIfInBounds_toArray, List.set_cons_zero, List.set_cons_succ]
  refine wpAnyH_take (i := 5) (oi := { dst := some 26, op := Go.Op.load 51 (Go.Operand.tmp 2), type := 51, pos := "prog.go:130", after := #[], guard := none }) (v := ?v31) rfl (by kernel_rfl) (by kernel_rfl) (by kernel_rfl) (fun _ _ _ h => h) (Or.inl ⟨by kernel_rfl, ?h31⟩) (by assumption) ?r31
  case h31 => (intro w hSw; (try dsimp only at hSw); go_simp; try with_reducible rfl)
  try simp only [Act.put, List.setIfInBounds_toArray, List.set_cons_zero, List.set_cons_succ]
  refine wpAnyH_take (i := 6) (oi := { dst := some 27, op := Go.Op.move (Go.Operand.tmp 1), type := 3, pos := "prog.go:130", after := #[], guard := none }) (v := ?v32) rfl (by kernel_rfl) (by kernel_rfl) (by kernel_rfl) (fun _ _ _ h => h) (Or.inl ⟨by kernel_rfl, ?h32⟩) (by assumption) ?r32
  case h32 => (intro w hSw; (try dsimp only at hSw); go_simp; try with_reducible rfl)
  try simp only [Act.put, List.setIfInBounds_toArray, List.set_cons_zero, List.set_cons_succ]
  refine wpAnyH_ready (rs := [0]) (by kernel_rfl) (by simp) ?_
  refine AllReadyH.cons (o := { dst := some 21, op := Go.Op.call { callee := Go.Callee.value (Go.Operand.func 74), args := #[], argTypes := #[] }, type := 105, pos := "prog.go:130", after := #[], guard := none }) rfl (fun K hK => ?_) AllReadyH.nil
  go_simp
  refine (kinds_any _).mono ?_
  rintro e u0 ⟨rfl, b0⟩
  have hx0 := hHeld.trans (b0.mono hHeld.size)
  go_simp
  refine hK.out _ _ (hx0) (fun hHeld => ?_)
  clear hK K
  try simp only [Act.put, List.setIfInBounds_toArray, List.set_cons_zero, List.set_cons_succ]
  refine wpAnyH_take (i := 3) (oi := { dst := some 24, op := Go.Op.index 105 (Go.Operand.tmp 21) (Go.Operand.tmp 23), type := 104, pos := "prog.go:130", after := #[{ on := 0, ground := Go.Ground.data }, { on := 2, ground := Go.Ground.data }], guard := none }) (v := ?v33) rfl (by kernel_rfl) (by kernel_rfl) (by kernel_rfl) (fun _ _ _ h => h) (Or.inl ⟨by kernel_rfl, ?h33⟩) (by assumption) ?r33
  case h33 => (intro w hSw; (try dsimp only at hSw); go_simp; try with_reducible rfl)
  try simp only [Act.put, List.setIfInBounds_toArray, List.set_cons_zero, List.set_cons_succ]
  refine wpAnyH_take (i := 4) (oi := { dst := some 25, op := Go.Op.field 104 (Go.Operand.tmp 24) 0, type := 54, pos := "prog.go:130", after := #[{ on := 3, ground := Go.Ground.data }], guard := none }) (v := ?v34) rfl (by kernel_rfl) (by kernel_rfl) (by kernel_rfl) (fun _ _ _ h => h) (Or.inl ⟨by kernel_rfl, ?h34⟩) (by assumption) ?r34
  case h34 => (intro w hSw; (try dsimp only at hSw); go_simp; try with_reducible rfl)
  try simp only [Act.put, List.setIfInBounds_toArray, List.set_cons_zero, List.set_cons_succ]
  refine wpAnyH_ready (rs := [7]) (by kernel_rfl) (by simp) ?_
  refine AllReadyH.cons (o := { dst := some 28, op := Go.Op.call { callee := Go.Callee.value (Go.Operand.tmp 25), args := #[Go.Operand.tmp 26, Go.Operand.tmp 27], argTypes := #[51, 3] }, type := 4, pos := "prog.go:130", after := #[{ on := 4, ground := Go.Ground.data }, { on := 5, ground := Go.Ground.data }, { on := 6, ground := Go.Ground.data }, { on := 0, ground := Go.Ground.chain }], guard := none }) rfl (fun K hK => ?_) AllReadyH.nil
  go_simp
  refine (hq'.out _).mono ?_
  rintro e u7 ⟨rfl, b7⟩
  have hx7 := hHeld.trans (b7.mono hHeld.size)
  go_simp
  refine hK.out _ _ (hx7) (fun hHeld => ?_)
  clear hK K
  try simp only [Act.put, List.setIfInBounds_toArray, List.set_cons_zero, List.set_cons_succ]
  refine wpAnyH_take (i := 8) (oi := { dst := some 4, op := Go.Op.assign (Go.Operand.tmp 28), type := 4, pos := "prog.go:130", after := #[{ on := 7, ground := Go.Ground.data }, { on := 7, ground := Go.Ground.chain }, { on := 0, ground := Go.Ground.phase }, { on := 1, ground := Go.Ground.phase }, { on := 2, ground := Go.Ground.phase }, { on := 3, ground := Go.Ground.phase }, { on := 4, ground := Go.Ground.phase }, { on := 5, ground := Go.Ground.phase }, { on := 6, ground := Go.Ground.phase }, { on := 7, ground := Go.Ground.phase }], guard := none }) (v := ?v35) rfl (by kernel_rfl) (by kernel_rfl) (by kernel_rfl) (fun _ _ _ h => h) (Or.inl ⟨by kernel_rfl, ?h35⟩) (by assumption) ?r35
  case h35 => (intro w hSw; (try dsimp only at hSw); go_simp; try with_reducible rfl)
  try simp only [Act.put, List.setIfInBounds_toArray, List.set_cons_zero, List.set_cons_succ]
  refine wpAnyH_done (by kernel_rfl) ?_ _
  have hx := Lib.hid hHeld
  go_wp2
  go_ret
  exact ⟨rfl, hB'.out.trans (hx.out.mono hB'.out.size)⟩
end Go.Proofs.YtjdfjekonnkglaaGreatDoor
namespace Go.Proofs.YtjdfjekonnkglaaGreatDoor
open Go.RowKit
set_option linter.unusedVariables false
set_option linter.unusedSimpArgs false
def letterI (c : Int) : Bool := decide (97 ≤ c ∧ c ≤ 122 ∨ 65 ≤ c ∧ c ≤ 90 ∨ c = 95)
def moreI (c : Int) : Bool := letterI c || (decide (48 ≤ c ∧ c ≤ 57) || decide (c = 46))
def fileI (c : Int) : Bool := moreI c || (decide (c = 45) || decide (c = 47))
theorem letter_high {c : Int} (h : 128 ≤ c) : letterI c = false := by unfold letterI; rw [decide_eq_false]; omega
theorem more_high {c : Int} (h : 128 ≤ c) : moreI c = false := by unfold moreI; rw [letter_high h, decide_eq_false (by omega), decide_eq_false (by omega)]; rfl
theorem file_high {c : Int} (h : 128 ≤ c) : fileI c = false := by unfold fileI; rw [more_high h, decide_eq_false (by omega), decide_eq_false (by omega)]; rfl
def nsz (s : ByteArray) : Nat := ((codes s).takeWhile moreI).length
theorem takeWhile_stop {p : Int → Bool} : ∀ (l : List Int) (k : Nat), (∀ t, t < k → p (l.getD t 0) = true) → k < l.length → p (l.getD k 0) = false → (l.takeWhile p).length = k
  | [], k, _, hk, _ => by simp at hk
  | x :: l, 0, _, _, h => by simp at h; simp [h]
  | x :: l, k + 1, h0, hk, h => by
    have hx : p x = true := by simpa using h0 0 (by omega)
    have ih := takeWhile_stop l k (fun t ht => by simpa using h0 (t + 1) (by omega)) (by simp at hk; omega) (by simpa using h)
    simp [hx, ih]
theorem takeWhile_whole {p : Int → Bool} : ∀ (l : List Int), (∀ t, t < l.length → p (l.getD t 0) = true) → (l.takeWhile p).length = l.length
  | [], _ => rfl
  | x :: l, h => by
    have hx : p x = true := by simpa using h 0 (by simp)
    have ih := takeWhile_whole l (fun t ht => by simpa using h (t + 1) (by simp; omega))
    simp [hx, ih]
theorem nsz_at {s : ByteArray} {k : Nat} (h0 : ∀ t, t < k → moreI ((codes s).getD t 0) = true) (hk : k < s.size) (h : moreI ((codes s).getD k 0) = false) : nsz s = k :=
  takeWhile_stop _ _ h0 (by rw [codes_length]; exact hk) h
theorem nsz_whole {s : ByteArray} (h0 : ∀ t, t < s.size → moreI ((codes s).getD t 0) = true) : nsz s = s.size := by
  have := takeWhile_whole (p := moreI) (codes s) (by rw [codes_length]; exact h0)
  rw [codes_length] at this
  exact this
theorem nsz_le (s : ByteArray) : nsz s ≤ s.size := by
  have := List.Sublist.length_le (List.takeWhile_sublist (l := codes s) moreI)
  rw [codes_length] at this
  exact this
def begB (s : ByteArray) : Bool := decide (0 < s.size) && letterI ((codes s).getD 0 0)
def nameB (s : ByteArray) : Bool := decide (s.size ≤ 32) && (begB s && decide (nsz s = s.size))
def allF (s : ByteArray) : Bool := (codes s).all fileI
def fileB (s : ByteArray) : Bool := decide (s.size ≤ 64) && (begB s && allF s)
theorem allF_no {s : ByteArray} {k : Nat} (hk : k < s.size) (h : fileI ((codes s).getD k 0) = false) : allF s = false := by
  unfold allF
  rw [List.all_eq_false]
  have hk' : k < (codes s).length := by rw [codes_length]; exact hk
  exact ⟨(codes s).getD k 0, by simp [List.getD, hk'], by rw [h]; simp⟩
theorem allF_yes {s : ByteArray} (h : ∀ t, t < s.size → fileI ((codes s).getD t 0) = true) : allF s = true := by
  unfold allF
  rw [List.all_eq_true]
  intro x hx
  obtain ⟨t, ht, rfl⟩ := List.getElem_of_mem hx
  have := h t (by rw [← codes_length]; exact ht)
  simpa [List.getD, ht] using this
set_option maxRecDepth 100000 in
theorem letter_any (c : Int) (w : World) : Calls Tryz.prog 75 #[.int .i32 c] w (SetTo (.bool (letterI c)) w) := by
  go_enter Tryz.func75, Tryz.ntmps75
  go_wp2
  all_goals
    go_ret
    exact ⟨ret_bool (by unfold letterI; rw [Bool.eq_iff_iff]; simp; omega), rfl⟩
set_option maxRecDepth 100000 in
theorem rletter_any (c : Int) (w : World) : Calls Tryz.prog 29 #[.int .u8 c] w (SetTo (.bool (letterI c)) w) := by
  go_enter Tryz.func29, Tryz.ntmps29
  go_wp2
  all_goals
    go_ret
    exact ⟨ret_bool (by unfold letterI; rw [Bool.eq_iff_iff]; simp; omega), rfl⟩
set_option maxRecDepth 100000 in
theorem nameRune_any (c : Int) (w : World) : Calls Tryz.prog 72 #[.int .i32 c] w (SetTo (.bool (moreI c)) w) := by
  have q := Lib.hid (letter_any c w)
  cases hl : letterI c
  · have hm : Hid (moreI c = (decide (48 ≤ c ∧ c ≤ 57) || decide (c = 46))) := Lib.hid (by unfold moreI; rw [hl]; rfl)
    rw [hl] at q
    clear hl
    generalize moreI c = R at *
    go_enter Tryz.func72, Tryz.ntmps72
    go_wp2_with fail
    refine q.out.mono ?_
    rintro e w1 ⟨rfl, rfl⟩
    go_wp2
    all_goals
      go_ret
      exact ⟨ret_bool (by rw [hm.out, Bool.eq_iff_iff]; simp; omega), rfl⟩
  · have hm : Hid (moreI c = true) := Lib.hid (by unfold moreI; rw [hl]; rfl)
    rw [hl] at q
    clear hl
    generalize moreI c = R at *
    go_enter Tryz.func72, Tryz.ntmps72
    go_wp2_with fail
    refine q.out.mono ?_
    rintro e w1 ⟨rfl, rfl⟩
    go_wp2
    go_ret
    exact ⟨ret_bool hm.out.symm, rfl⟩
set_option maxRecDepth 100000 in
theorem rmore_any (c : Int) (w : World) : Calls Tryz.prog 28 #[.int .u8 c] w (SetTo (.bool (moreI c)) w) := by
  have q := Lib.hid (rletter_any c w)
  cases hl : letterI c
  · have hm : Hid (moreI c = (decide (48 ≤ c ∧ c ≤ 57) || decide (c = 46))) := Lib.hid (by unfold moreI; rw [hl]; rfl)
    rw [hl] at q
    clear hl
    generalize moreI c = R at *
    go_enter Tryz.func28, Tryz.ntmps28
    go_wp2_with fail
    refine q.out.mono ?_
    rintro e w1 ⟨rfl, rfl⟩
    go_wp2
    all_goals
      go_ret
      exact ⟨ret_bool (by rw [hm.out, Bool.eq_iff_iff]; simp; omega), rfl⟩
  · have hm : Hid (moreI c = true) := Lib.hid (by unfold moreI; rw [hl]; rfl)
    rw [hl] at q
    clear hl
    generalize moreI c = R at *
    go_enter Tryz.func28, Tryz.ntmps28
    go_wp2_with fail
    refine q.out.mono ?_
    rintro e w1 ⟨rfl, rfl⟩
    go_wp2
    go_ret
    exact ⟨ret_bool hm.out.symm, rfl⟩
theorem iter_below (w : World) (s : ByteArray) (pos : Nat) : Below w.heap.size w (w.iter s pos) := (Below.refl _ _).alloc (Nat.le_refl _) _
set_option maxRecDepth 100000 in
set_option maxHeartbeats 2000000 in
theorem nameSize_any (s : ByteArray) (hs : s.size ≤ 9223372036854775806) (w : World) : Calls Tryz.prog 49 #[.string s] w (Gives (.int .i64 (nsz s : Nat)) w) := by
  obtain ⟨R, hR'⟩ : ∃ R, R = nsz s := ⟨_, rfl⟩
  have hR := Lib.hid hR'
  rw [← hR']
  clear hR'
  go_enter Tryz.func49, Tryz.ntmps49
  go_wp2
  go_loopw [] (fun wr => ∃ pos : Nat, pos ≤ s.size ∧ wr = w.iter s pos ∧ Hid (∀ t, t < pos → moreI ((codes s).getD t 0) = true)) (fun wr => s.size - wr.iterPos w.heap.size)
  case atStart => exact ⟨0, Nat.zero_le _, rfl, Lib.hid (fun t ht => by omega)⟩
  case round =>
    obtain ⟨pos, hpos, rfl, hal⟩ := hrel
    by_cases hp : pos < s.size
    · have hat := codes_at s pos hp
      by_cases ha : (s[pos]'hp).toNat < 128
      · have hnx : ∀ ty, (Instr.next (.pointer (some ⟨w.heap.size, 0, none⟩)) true ty).run Tryz.prog (w.iter s pos) = _ := fun ty => run_next_ascii w s pos ty hp ha
        rw [← hat] at hnx
        have hst := Lib.hid (fun (h : moreI ((codes s).getD pos 0) = false) => nsz_at hal.out hp h)
        generalize hc : (codes s).getD pos 0 = c at *
        have q := Lib.hid (nameRune_any c)
        cases hm : moreI c
        · have hf := Lib.hid (hst.out hm)
          rw [hm] at q
          clear hat hst hc ha
          go_wp2_with fail
          refine (q.out _).mono ?_
          rintro e w1 ⟨rfl, rfl⟩
          go_wp2
          go_ret
          exact ⟨ret_int (by rw [hR.out, hf.out]), iter_below _ _ _⟩
        · have hn : Hid (∀ t, t < pos + 1 → moreI ((codes s).getD t 0) = true) := Lib.hid (fun t ht => by
            by_cases e : t = pos
            · rw [e, hc]; exact hm
            · exact hal.out t (by omega))
          rw [hm] at q
          clear hat hst hc ha hal
          go_wp2_with fail
          refine (q.out _).mono ?_
          rintro e w1 ⟨rfl, rfl⟩
          go_wp2
          go_roundw
          case rel => exact ⟨pos + 1, by omega, rfl, hn⟩
          case measure => simp; omega
      · have hnx : ∀ ty, (Instr.next (.pointer (some ⟨w.heap.size, 0, none⟩)) true ty).run Tryz.prog (w.iter s pos) = _ := fun ty => run_next_any w s pos ty hp
        have hd := (decode_high s pos hp (by omega)).1
        have hf := Lib.hid (nsz_at hal.out hp (more_high (by rw [hat]; omega)))
        generalize (Utf8.decode s pos).1 = c at *
        generalize (Utf8.decode s pos).2 = d at *
        have q := Lib.hid (nameRune_any (c : Int))
        rw [more_high (by omega)] at q
        clear hat hd ha
        go_wp2_with fail
        refine (q.out _).mono ?_
        rintro e w1 ⟨rfl, rfl⟩
        go_wp2
        go_ret
        exact ⟨ret_int (by rw [hR.out, hf.out]), iter_below _ _ _⟩
    · have hnx : ∀ ty, (Instr.next (.pointer (some ⟨w.heap.size, 0, none⟩)) true ty).run Tryz.prog (w.iter s pos) = _ := fun ty => run_next_end w s pos ty hp
      have hf := Lib.hid (nsz_whole (s := s) (fun t ht => hal.out t (by omega)))
      go_wp2
      go_ret
      exact ⟨ret_int (by rw [hR.out, hf.out]), iter_below _ _ _⟩
end Go.Proofs.YtjdfjekonnkglaaGreatDoor
namespace Go.Proofs.YtjdfjekonnkglaaGreatDoor
open Go.RowKit
set_option linter.unusedVariables false
set_option linter.unusedSimpArgs false
theorem empty_no {s : ByteArray} (h : 0 < s.size) : s.toList.isEmpty = false := by
  rw [ByteArray.toList_eq]
  cases hq : s.data.toList with
  | nil =>
    have h0 : s.size = 0 := by have := congrArg List.length hq; rw [Array.length_toList] at this; exact this
    omega
  | cons c l => rfl
theorem empty_yes {s : ByteArray} (h : ¬ 0 < s.size) : s.toList.isEmpty = true := by
  rw [ByteArray.toList_eq]
  have h1 : s.data.toList.length = 0 := by rw [Array.length_toList]; show s.size = 0; omega
  rw [List.length_eq_zero_iff.1 h1]
  rfl
set_option maxRecDepth 100000 in
theorem begins_any (s : ByteArray) (w : World) : Calls Tryz.prog 48 #[.string s] w (SetTo (.bool (begB s)) w) := by
  by_cases h0 : 0 < s.size
  · have he := empty_no h0
    have hc := codes_at s 0 h0
    have hR : Hid (begB s = letterI ((codes s).getD 0 0)) := Lib.hid (by unfold begB; rw [decide_eq_true h0, Bool.true_and])
    rw [hc] at hR
    have hw : IntKind.i32.wrap ((s[0]'h0).toNat : Int) = ((s[0]'h0).toNat : Int) := by
      have := (s[0]'h0).toNat_lt
      simp [IntKind.wrap, IntKind.bits, IntKind.signed]; omega
    have q := Lib.hid (letter_any ((s[0]'h0).toNat : Int) w)
    have h0i : (0 : Int) < (s.size : Int) := by omega
    have hxa : (s[0]'h0).toNat < 256 := (s[0]'h0).toNat_lt
    clear hc
    generalize letterI ((s[0]'h0).toNat : Int) = L at *
    go_enter Tryz.func48, Tryz.ntmps48
    go_wp2_with fail
    refine q.out.mono ?_
    rintro e w1 ⟨rfl, rfl⟩
    go_wp2
    go_ret
    exact ⟨ret_bool hR.out.symm, rfl⟩
  · have he := empty_yes h0
    have hR : Hid (begB s = false) := Lib.hid (by unfold begB; rw [decide_eq_false h0, Bool.false_and])
    go_enter Tryz.func48, Tryz.ntmps48
    go_wp2
    go_ret
    exact ⟨ret_bool hR.out.symm, rfl⟩
set_option maxRecDepth 100000 in
theorem name_any (s : ByteArray) (w : World) : Calls Tryz.prog 34 #[.string s] w (Gives (.bool (nameB s)) w) := by
  by_cases h0 : s.size ≤ 32
  · have h0i : (s.size : Int) ≤ 32 := by omega
    have q1 := Lib.hid (begins_any s w)
    have q2 := Lib.hid (nameSize_any s (by omega) w)
    cases hb : begB s
    · have hR : Hid (nameB s = false) := Lib.hid (by unfold nameB; rw [hb, Bool.false_and, Bool.and_false])
      rw [hb] at q1
      clear hb
      go_enter Tryz.func34, Tryz.ntmps34
      go_wp2_with fail
      refine q1.out.mono ?_
      rintro e w1 ⟨rfl, rfl⟩
      go_wp2
      go_ret
      exact ⟨ret_bool hR.out.symm, Below.refl _ _⟩
    · have hR : Hid (nameB s = decide (nsz s = s.size)) := Lib.hid (by unfold nameB; rw [hb, decide_eq_true h0, Bool.true_and, Bool.true_and])
      rw [hb] at q1
      have hle := nsz_le s
      clear hb
      generalize nameB s = R at *
      generalize nsz s = k at *
      have hle' := Lib.hid hle
      clear hle
      go_enter Tryz.func34, Tryz.ntmps34
      go_wp2_with fail
      refine q1.out.mono ?_
      rintro e w1 ⟨rfl, rfl⟩
      go_wp2_with fail
      refine q2.out.mono ?_
      rintro e w2 ⟨rfl, hb2⟩
      go_wp2
      go_ret
      exact ⟨ret_bool (by rw [hR.out, Bool.eq_iff_iff]; first | (simp; done) | (simp; omega)), hb2⟩
  · have h0i : ¬ (s.size : Int) ≤ 32 := by omega
    have hR : Hid (nameB s = false) := Lib.hid (by unfold nameB; rw [decide_eq_false h0, Bool.false_and])
    go_enter Tryz.func34, Tryz.ntmps34
    go_wp2
    go_ret
    exact ⟨ret_bool hR.out.symm, Below.refl _ _⟩
theorem name_no {s : ByteArray} {k : Nat} (hk : k < s.size) (h : moreI ((codes s).getD k 0) = false) : nameB s = false := by
  unfold nameB
  have : nsz s ≠ s.size := by
    intro e
    have h1 : ∀ l : List Int, ∀ j, j < (l.takeWhile moreI).length → moreI (l.getD j 0) = true := by
      intro l
      induction l with
      | nil => intro j hj; simp at hj
      | cons x l ih =>
        intro j hj
        by_cases hx : moreI x = true
        · simp [hx] at hj
          cases j with
          | zero => simpa using hx
          | succ j => simpa using ih j (by omega)
        · simp [hx] at hj
    have h2 := h1 (codes s) k (by have : nsz s = _ := rfl; unfold nsz at e; omega)
    rw [h] at h2; cases h2
  rw [decide_eq_false this, Bool.and_false, Bool.and_false]
theorem name_yes {s : ByteArray} (h : ∀ t, t < s.size → moreI ((codes s).getD t 0) = true) : nameB s = (decide (0 < s.size) && (decide (s.size ≤ 32) && letterI ((codes s).getD 0 0))) := by
  unfold nameB begB
  rw [decide_eq_true (nsz_whole h)]
  cases decide (s.size ≤ 32) <;> cases decide (0 < s.size) <;> cases letterI ((codes s).getD 0 0) <;> rfl
set_option maxRecDepth 100000 in
set_option maxHeartbeats 1000000 in
theorem rname_any (s : ByteArray) (hs : s.size ≤ 9223372036854775806) (w : World) : Calls Tryz.prog 14 #[.string s] w (SetTo (.bool (nameB s)) w) := by
  obtain ⟨R, hR'⟩ : ∃ R, R = nameB s := ⟨_, rfl⟩
  have hR := Lib.hid hR'
  rw [← hR']
  clear hR'
  go_enter Tryz.func14, Tryz.ntmps14
  go_wp2
  go_loop [3] (fun x => ∃ k : Nat, k ≤ s.size ∧ x = .int .i64 k ∧ Hid (∀ t, t < k → moreI ((codes s).getD t 0) = true)) (fun x => s.size - (intOf x).toNat)
  case atStart => exact ⟨0, Nat.zero_le _, rfl, Lib.hid (fun t ht => by omega)⟩
  case round =>
    obtain ⟨k, hk, rfl, hal⟩ := hrel
    by_cases hp : k < s.size
    · have hpi : (k : Int) < (s.size : Int) := by omega
      have hat := Lib.hid (codes_at s k hp)
      have q := Lib.hid (rmore_any ((s[k]'hp).toNat : Int) w)
      cases hm : moreI ((s[k]'hp).toNat : Int)
      · have hf := Lib.hid (name_no hp (by rw [hat.out]; exact hm))
        rw [hm] at q
        clear hm
        go_wp2_with fail
        refine q.out.mono ?_
        rintro e w1 ⟨rfl, rfl⟩
        go_wp2
        go_ret
        exact ⟨ret_bool (by rw [hR.out, hf.out]), rfl⟩
      · have hn : Hid (∀ t, t < k + 1 → moreI ((codes s).getD t 0) = true) := Lib.hid (fun t ht => by
          by_cases e : t = k
          · rw [e, hat.out]; exact hm
          · exact hal.out t (by omega))
        rw [hm] at q
        clear hm hal hat
        go_wp2_with fail
        refine q.out.mono ?_
        rintro e w1 ⟨rfl, rfl⟩
        go_wp2
        go_round
        case rel => exact ⟨k + 1, by omega, by go_num, hn⟩
        case measure => simp [intOf]; omega
    · have hpi : ¬ (k : Int) < (s.size : Int) := by omega
      have hY := Lib.hid (name_yes (s := s) (fun t ht => hal.out t (by omega)))
      clear hal
      by_cases h0 : 0 < s.size
      · have h0i : (0 : Int) < (s.size : Int) := by omega
        by_cases h1 : s.size ≤ 32
        · have h1i : (s.size : Int) ≤ 32 := by omega
          have q := Lib.hid (rletter_any ((s[0]'h0).toNat : Int) w)
          have hF : Hid (R = letterI ((s[0]'h0).toNat : Int)) := Lib.hid (by rw [hR.out, hY.out, decide_eq_true h0, decide_eq_true h1, codes_at s 0 h0]; rfl)
          clear hY hR
          go_wp2_with fail
          refine q.out.mono ?_
          rintro e w1 ⟨rfl, rfl⟩
          go_wp2
          go_ret
          exact ⟨ret_bool hF.out.symm, rfl⟩
        · have h1i : ¬ (s.size : Int) ≤ 32 := by omega
          have hF : Hid (R = false) := Lib.hid (by rw [hR.out, hY.out, decide_eq_true h0, decide_eq_false h1]; rfl)
          clear hY hR
          go_wp2
          go_ret
          exact ⟨ret_bool hF.out.symm, rfl⟩
      · have h0i : ¬ (0 : Int) < (s.size : Int) := by omega
        have hF : Hid (R = false) := Lib.hid (by rw [hR.out, hY.out, decide_eq_false h0]; rfl)
        clear hY hR
        go_wp2
        go_ret
        exact ⟨ret_bool hF.out.symm, rfl⟩
end Go.Proofs.YtjdfjekonnkglaaGreatDoor
namespace Go.Proofs
open Go.Shelf
def Tryz.lays189_ren : Go.Shelf.Ren := ⟨fun | 189 => 25 | 125 => 44 | 257 => 43 | 128 => 69 | 129 => 70 | 294 => 60 | 295 => 61 | 296 => 62 | 297 => 63 | 298 => 64 | 299 => 65 | 216 => 66 | 300 => 67 | 301 => 68 | 328 => 79 | 329 => 80 | 330 => 81 | 331 => 82 | 332 => 83 | 215 => 84 | 343 => 95 | n => n, fun | 28 => 27 | 3 => 3 | 46 => 79 | 0 => 0 | 51 => 97 | 53 => 99 | 4 => 4 | 183 => 89 | 182 => 88 | 131 => 94 | 5 => 5 | 9 => 9 | 218 => 109 | 222 => 113 | 228 => 116 | 229 => 117 | n => n, fun | n => n⟩
theorem Tryz.lays189 : Go.Proofs.Lays.n189 Tryz.prog Tryz.lays189_ren := {
  mixed := by kernel_rfl
  f125 := Tryz.func44.trans (congrArg some (by kernel_rfl))
  f128 := Tryz.func69.trans (congrArg some (by kernel_rfl))
  f129 := Tryz.func70.trans (congrArg some (by kernel_rfl))
  f189 := Tryz.func25.trans (congrArg some (by kernel_rfl))
  f215 := Tryz.func84.trans (congrArg some (by kernel_rfl))
  f216 := Tryz.func66.trans (congrArg some (by kernel_rfl))
  f257 := Tryz.func43.trans (congrArg some (by kernel_rfl))
  f294 := Tryz.func60.trans (congrArg some (by kernel_rfl))
  f295 := Tryz.func61.trans (congrArg some (by kernel_rfl))
  f296 := Tryz.func62.trans (congrArg some (by kernel_rfl))
  f297 := Tryz.func63.trans (congrArg some (by kernel_rfl))
  f298 := Tryz.func64.trans (congrArg some (by kernel_rfl))
  f299 := Tryz.func65.trans (congrArg some (by kernel_rfl))
  f300 := Tryz.func67.trans (congrArg some (by kernel_rfl))
  f301 := Tryz.func68.trans (congrArg some (by kernel_rfl))
  f328 := Tryz.func79.trans (congrArg some (by kernel_rfl))
  f329 := Tryz.func80.trans (congrArg some (by kernel_rfl))
  f330 := Tryz.func81.trans (congrArg some (by kernel_rfl))
  f331 := Tryz.func82.trans (congrArg some (by kernel_rfl))
  f332 := Tryz.func83.trans (congrArg some (by kernel_rfl))
  f343 := Tryz.func95.trans (congrArg some (by kernel_rfl))
  t0 := Tryz.underlying0
  a0 := Tryz.isAgg0
  z0 := Tryz.sizeOf0
  v0 := Tryz.zeroValue0
  t3 := Tryz.underlying3
  a3 := Tryz.isAgg3
  z3 := Tryz.sizeOf3
  v3 := Tryz.zeroValue3
  t4 := Tryz.underlying4
  a4 := Tryz.isAgg4
  z4 := Tryz.sizeOf4
  v4 := Tryz.zeroValue4
  t5 := Tryz.underlying5
  a5 := Tryz.isAgg5
  z5 := Tryz.sizeOf5
  v5 := Tryz.zeroValue5
  t9 := Tryz.underlying9
  a9 := Tryz.isAgg9
  z9 := Tryz.sizeOf9
  v9 := Tryz.zeroValue9
  t28 := Tryz.underlying27
  a28 := Tryz.isAgg27
  z28 := Tryz.sizeOf27
  v28 := Tryz.zeroValue27
  t46 := Tryz.underlying79
  a46 := Tryz.isAgg79
  z46 := Tryz.sizeOf79
  v46 := Tryz.zeroValue79
  t51 := Tryz.underlying97
  a51 := Tryz.isAgg97
  z51 := Tryz.sizeOf97
  v51 := Tryz.zeroValue97
  t53 := Tryz.underlying99
  a53 := Tryz.isAgg99
  z53 := Tryz.sizeOf99
  v53 := Tryz.zeroValue99
  t131 := Tryz.underlying94
  a131 := Tryz.isAgg94
  z131 := Tryz.sizeOf94
  v131 := Tryz.zeroValue94
  t182 := Tryz.underlying88
  a182 := Tryz.isAgg88
  z182 := Tryz.sizeOf88
  v182 := Tryz.zeroValue88
  t183 := Tryz.underlying89
  a183 := Tryz.isAgg89
  z183 := Tryz.sizeOf89
  v183 := Tryz.zeroValue89
  t218 := Tryz.underlying109
  a218 := Tryz.isAgg109
  z218 := Tryz.sizeOf109
  v218 := Tryz.zeroValue109
  t222 := Tryz.underlying113
  a222 := Tryz.isAgg113
  z222 := Tryz.sizeOf113
  v222 := Tryz.zeroValue113
  t228 := Tryz.underlying116
  a228 := Tryz.isAgg116
  z228 := Tryz.sizeOf116
  v228 := Tryz.zeroValue116
  t229 := Tryz.underlying117
  a229 := Tryz.isAgg117
  z229 := Tryz.sizeOf117
  v229 := Tryz.zeroValue117 }
open Go.Sort Go.RowKit in
theorem Tryz.slices_Sort_int (blk off cap : Nat) (zs : List Int) (w : World) (hH : Holds (Value.int .i64) w blk off zs.toArray) (hblk : blk < w.heap.size) (hsz : zs.length < 4611686018427387904) :
    Calls Tryz.prog 25 #[.slice (some ⟨blk, off, none⟩) zs.length cap] w fun e w' =>
      e = .returned (.tuple #[]) ∧ ∃ n os, w' = grow (putRow (Value.int .i64) (Sort.ahead w n) blk off (zs.mergeSort fun x y => decide (x ≤ y)).toArray) os := Any.slices_Sort_int Tryz.lays189 blk off cap zs w hH hblk hsz
def Tryz.laysGw17_ren : Go.Shelf.Ren := ⟨fun | 17 => 73 | 15 => 85 | 20 => 96 | n => n, fun | 9 => 9 | 23 => 100 | 4 => 4 | 3 => 3 | 0 => 0 | 21 => 21 | n => n, fun | n => n⟩
theorem Tryz.laysGw17 : Go.Proofs.LaysGw.n17 Tryz.prog Tryz.laysGw17_ren := {
  mixed := by kernel_rfl
  f15 := Tryz.func85.trans (congrArg some (by kernel_rfl))
  f17 := Tryz.func73.trans (congrArg some (by kernel_rfl))
  f20 := Tryz.func96.trans (congrArg some (by kernel_rfl))
  t0 := Tryz.underlying0
  a0 := Tryz.isAgg0
  z0 := Tryz.sizeOf0
  v0 := Tryz.zeroValue0
  i0 := by kernel_rfl
  t3 := Tryz.underlying3
  a3 := Tryz.isAgg3
  z3 := Tryz.sizeOf3
  v3 := Tryz.zeroValue3
  i3 := by kernel_rfl
  t4 := Tryz.underlying4
  a4 := Tryz.isAgg4
  z4 := Tryz.sizeOf4
  v4 := Tryz.zeroValue4
  i4 := by kernel_rfl
  t9 := Tryz.underlying9
  a9 := Tryz.isAgg9
  z9 := Tryz.sizeOf9
  v9 := Tryz.zeroValue9
  i9 := by kernel_rfl
  t21 := Tryz.underlying21
  a21 := Tryz.isAgg21
  z21 := Tryz.sizeOf21
  v21 := Tryz.zeroValue21
  i21 := by kernel_rfl
  t23 := Tryz.underlying100
  a23 := Tryz.isAgg100
  z23 := Tryz.sizeOf100
  v23 := Tryz.zeroValue100
  i23 := by kernel_rfl }
open Go.RowKit Go.Lib in
theorem Tryz.strings_ContainsFunc_grows (g : Nat) (lb : Array Value) (eg : ∀ args w, (callFunc g args).run Tryz.prog w = .ok (.enter g args) w) (p : Nat → Bool) (s : ByteArray) (w : World) (hp : PredGrows Tryz.prog g lb p w) :
    Calls Tryz.prog 73 #[.string s, .func (.func g) #[] lb] w fun e w' => e = .returned (.bool (decide (0 ≤ Lib.idxFunc p true s))) ∧ Below w.heap.size w w' := Any.strings_ContainsFunc_grows Tryz.laysGw17 g lb eg p s w hp
def Tryz.lays110_ren : Go.Shelf.Ren := ⟨fun | 110 => 51 | 109 => 76 | n => n, fun | 31 => 22 | 9 => 9 | 4 => 4 | 3 => 3 | 0 => 0 | n => n, fun | n => n⟩
theorem Tryz.lays110 : Go.Proofs.Lays.n110 Tryz.prog Tryz.lays110_ren := {
  mixed := by kernel_rfl
  f109 := Tryz.func76.trans (congrArg some (by kernel_rfl))
  f110 := Tryz.func51.trans (congrArg some (by kernel_rfl))
  t0 := Tryz.underlying0
  a0 := Tryz.isAgg0
  z0 := Tryz.sizeOf0
  v0 := Tryz.zeroValue0
  t3 := Tryz.underlying3
  a3 := Tryz.isAgg3
  z3 := Tryz.sizeOf3
  v3 := Tryz.zeroValue3
  t4 := Tryz.underlying4
  a4 := Tryz.isAgg4
  z4 := Tryz.sizeOf4
  v4 := Tryz.zeroValue4
  t9 := Tryz.underlying9
  a9 := Tryz.isAgg9
  z9 := Tryz.sizeOf9
  v9 := Tryz.zeroValue9
  t31 := Tryz.underlying22
  a31 := Tryz.isAgg22
  z31 := Tryz.sizeOf22
  v31 := Tryz.zeroValue22 }
open Go.Lib in
theorem Tryz.slices_Contains_string (b off n c : Nat) (zs : List ByteArray) (x : ByteArray) (w : World) (hz : n ≤ zs.length) (hbig : n ≤ 9223372036854775807) (hc : ∀ j, j < zs.length → w.cell? ⟨b, off + j, none⟩ = some (.string (zs.getD j ByteArray.empty))) :
    Calls Tryz.prog 51 #[.slice (some ⟨b, off, none⟩) n c, .string x] w fun e w' => e = .returned (.bool (Lib.containsS (zs.take n) x)) ∧ w' = w := Any.slices_Contains_string Tryz.lays110 b off n c zs x w hz hbig hc
def Tryz.lays111_ren : Go.Shelf.Ren := ⟨fun | 111 => 27 | n => n, fun | 28 => 27 | 3 => 3 | 4 => 4 | 0 => 0 | n => n, fun | n => n⟩
theorem Tryz.lays111 : Go.Proofs.Lays.n111 Tryz.prog Tryz.lays111_ren := {
  mixed := by kernel_rfl
  f111 := Tryz.func27.trans (congrArg some (by kernel_rfl))
  t0 := Tryz.underlying0
  a0 := Tryz.isAgg0
  z0 := Tryz.sizeOf0
  v0 := Tryz.zeroValue0
  t3 := Tryz.underlying3
  a3 := Tryz.isAgg3
  z3 := Tryz.sizeOf3
  v3 := Tryz.zeroValue3
  t4 := Tryz.underlying4
  a4 := Tryz.isAgg4
  z4 := Tryz.sizeOf4
  v4 := Tryz.zeroValue4
  t28 := Tryz.underlying27
  a28 := Tryz.isAgg27
  z28 := Tryz.sizeOf27
  v28 := Tryz.zeroValue27 }
open Go.RowKit Go.Lib in
theorem Tryz.slices_Equal_int (b1 o1 n c b2 o2 m d : Nat) (xs ys : List Int) (w : World) (hx : n ≤ xs.length) (hy : m ≤ ys.length) (hbig : n ≤ 9223372036854775807) (hbig2 : m ≤ 9223372036854775807) (hc1 : ∀ j, j < xs.length → w.cell? ⟨b1, o1 + j, none⟩ = some (.int .i64 (xs.getD j 0))) (hc2 : ∀ j, j < ys.length → w.cell? ⟨b2, o2 + j, none⟩ = some (.int .i64 (ys.getD j 0))) :
    Calls Tryz.prog 27 #[.slice (some ⟨b1, o1, none⟩) n c, .slice (some ⟨b2, o2, none⟩) m d] w fun e w' => e = .returned (.bool (xs.take n == ys.take m)) ∧ ∃ q, w' = w.drewN q := Any.slices_Equal_int Tryz.lays111 b1 o1 n c b2 o2 m d xs ys w hx hy hbig hbig2 hc1 hc2
open Go.RowKit Go.Lib in
theorem Tryz.slices_Equal_int_empty (a1 a2 : Option Addr) (c m d : Nat) (w : World) (hbig2 : m ≤ 9223372036854775807) :
    Calls Tryz.prog 27 #[.slice a1 0 c, .slice a2 m d] w fun e w' => e = .returned (.bool (decide (m = 0))) ∧ w' = w := Any.slices_Equal_int_empty Tryz.lays111 a1 a2 c m d w hbig2
def Tryz.laysNm215_ren : Go.Shelf.Ren := ⟨fun | 15 => 23 | n => n, fun | 22 => 27 | 3 => 3 | 4 => 4 | n => n, fun | n => n⟩
theorem Tryz.laysNm215 : Go.Proofs.Lays2.n15 Tryz.prog Tryz.laysNm215_ren := {
  mixed := by kernel_rfl
  f15 := Tryz.func23.trans (congrArg some (by kernel_rfl))
  t3 := Tryz.underlying3
  a3 := Tryz.isAgg3
  z3 := Tryz.sizeOf3
  v3 := Tryz.zeroValue3
  t4 := Tryz.underlying4
  a4 := Tryz.isAgg4
  z4 := Tryz.sizeOf4
  v4 := Tryz.zeroValue4
  t22 := Tryz.underlying27
  a22 := Tryz.isAgg27
  z22 := Tryz.sizeOf27
  v22 := Tryz.zeroValue27
  i3 := by kernel_rfl }
open Go.RowKit Go.Lib in
theorem Tryz.slices_Clone_int (b off n c : Nat) (zs : List Int) (w : World) (hz : n ≤ zs.length) (hbig : n * 8 ≤ 140737488355328) (hc : ∀ j, j < zs.length → w.cell? ⟨b, off + j, none⟩ = some (.int .i64 (zs.getD j 0))) :
    Calls Tryz.prog 23 #[.slice (some ⟨b, off, none⟩) n c] w fun e w' => ∃ v', e = .returned v' ∧ w'.ownsRow w.heap.size 3 1 v' n ((zs.take n).map (Value.int .i64)) ∧ v' ≠ .slice none 0 0 ∧ Below w.heap.size w w' := Any.slices_Clone_int Tryz.laysNm215 b off n c zs w hz hbig hc
open Go.RowKit Go.Lib in
theorem Tryz.slices_Clone_int_nil (n c : Nat) (w : World) :
    Calls Tryz.prog 23 #[.slice none n c] w fun e w' => e = .returned (.slice none 0 0) ∧ w' = w := Any.slices_Clone_int_nil Tryz.laysNm215 n c w
open Go.RowKit Go.Lib in
theorem Tryz.slices_Clone_int_zero (a : Addr) (c : Nat) (w : World) :
    Calls Tryz.prog 23 #[.slice (some a) 0 c] w fun e w' => ∃ v', e = .returned v' ∧ w'.ownsRow w.heap.size 3 1 v' 0 [] ∧ v' ≠ .slice none 0 0 ∧ Below w.heap.size w w' := Any.slices_Clone_int_zero Tryz.laysNm215 a c w
open Go.RowKit Go.Lib in
theorem Tryz.slices_Equal_int_lens (a1 a2 : Option Addr) (n c m d : Nat) (w : World) (hnm : n ≠ m) :
    Calls Tryz.prog 27 #[.slice a1 n c, .slice a2 m d] w fun e w' => e = .returned (.bool false) ∧ w' = w := Any.slices_Equal_int_lens Tryz.lays111 a1 a2 n c m d w hnm
end Go.Proofs
