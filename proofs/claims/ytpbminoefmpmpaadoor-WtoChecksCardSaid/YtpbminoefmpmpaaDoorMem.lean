/- Memory but for some blocks: of what lies below block B all that is no block of X is as it was; a block that is known whole. -/
import Derived.Test.YtpbminoefmpmpaaDoorKit2
import Derived.Deep.Draws
import Derived.Deep.QuietTactic
import Derived.BigQuiet
import Derived.WalkSmall
namespace Go.Proofs.YtpbminoefmpmpaaDoor
open Go.RowKit
set_option linter.unusedVariables false

structure BelowE (X : List Nat) (B : Nat) (w w' : World) : Prop where
  os : w'.os = w.os
  tape : w'.tape = w.tape
  output : w'.output = w.output
  size : w.heap.size ≤ w'.heap.size
  block : ∀ k, k < B → k ∉ X → w'.heap[k]? = w.heap[k]?
theorem BelowE.refl (X : List Nat) (B : Nat) (w : World) : BelowE X B w w := ⟨rfl, rfl, rfl, Nat.le_refl _, fun _ _ _ => rfl⟩
theorem BelowE.of {X : List Nat} {B : Nat} {w w' : World} (h : Below B w w') : BelowE X B w w' := ⟨h.os, h.tape, h.output, h.size, fun k hk _ => h.block k hk⟩
theorem BelowE.none {B : Nat} {w w' : World} (h : BelowE [] B w w') : Below B w w' := ⟨h.os, h.tape, h.output, h.size, fun k hk => h.block k hk (by simp)⟩
theorem BelowE.trans {X : List Nat} {B : Nat} {a b c : World} (h : BelowE X B a b) (k : BelowE X B b c) : BelowE X B a c :=
  ⟨k.os.trans h.os, k.tape.trans h.tape, k.output.trans h.output, Nat.le_trans h.size k.size, fun i hi hx => (k.block i hi hx).trans (h.block i hi hx)⟩
theorem BelowE.mono {X : List Nat} {B B' : Nat} {w w' : World} (h : BelowE X B w w') (hB : B' ≤ B) : BelowE X B' w w' :=
  ⟨h.os, h.tape, h.output, h.size, fun k hk hx => h.block k (Nat.lt_of_lt_of_le hk hB) hx⟩
theorem BelowE.wider {X Y : List Nat} {B : Nat} {w w' : World} (h : BelowE X B w w') (hXY : ∀ x ∈ X, x ∈ Y) : BelowE Y B w w' :=
  ⟨h.os, h.tape, h.output, h.size, fun k hk hx => h.block k hk fun hm => hx (hXY k hm)⟩
/-- Blocks from B on are no matter. -/
theorem BelowE.less {X Y : List Nat} {B : Nat} {w w' : World} (h : BelowE X B w w') (hX : ∀ x ∈ X, x < B → x ∈ Y) : BelowE Y B w w' :=
  ⟨h.os, h.tape, h.output, h.size, fun k hk hx => h.block k hk fun hm => hx (hX k hm hk)⟩
theorem BelowE.drew {X : List Nat} {B : Nat} {a w : World} (h : BelowE X B a w) : BelowE X B a w.drew := ⟨h.os, h.tape, h.output, h.size, h.block⟩
theorem BelowE.drewN {X : List Nat} {B : Nat} {a w : World} (h : BelowE X B a w) (n : Nat) : BelowE X B a (w.drewN n) := ⟨h.os, h.tape, h.output, h.size, h.block⟩
theorem BelowE.alloc {X : List Nat} {B : Nat} {a w : World} (h : BelowE X B a w) (hB : B ≤ w.heap.size) (o : Obj) : BelowE X B a (w.alloc o) :=
  h.trans (.of ((Below.refl B w).alloc hB o))
theorem BelowE.setNew {X : List Nat} {B : Nat} {a w : World} (h : BelowE X B a w) {p : Addr} (hp : B ≤ p.block) (u : Value) : BelowE X B a (w.setCell p u) :=
  h.trans (.of ((Below.refl B w).setCell hp u))
theorem BelowE.setIn {X : List Nat} {B : Nat} {a w : World} (h : BelowE X B a w) {p : Addr} (hp : p.block ∈ X) (u : Value) : BelowE X B a (w.setCell p u) :=
  h.trans ⟨rfl, rfl, rfl, by simp [World.setCell], fun k _ hx => Below.heap_setCell _ _ _ _ (fun e => hx (e ▸ hp))⟩
theorem BelowE.cell {X : List Nat} {B : Nat} {w w' : World} (h : BelowE X B w w') {p : Addr} (hp : p.block < B) (hx : p.block ∉ X) : w'.cell? p = w.cell? p := World.cell?_of_block (w := w) (h.block p.block hp hx)

/-- A block that is known whole. -/
def Holds (w : World) (g : Nat) (t : TypeId) (cs : Array Value) : Prop := w.heap[g]? = some (.cells cs t (0, 0))
theorem Holds.lt {w : World} {g : Nat} {t : TypeId} {cs : Array Value} (h : Holds w g t cs) : g < w.heap.size := (Array.getElem?_eq_some_iff.1 h).1
theorem Holds.cell {w : World} {g : Nat} {t : TypeId} {cs : Array Value} (h : Holds w g t cs) (i : Nat) : w.cell? ⟨g, i, none⟩ = cs[i]? := cell_of_row w g i cs t (0, 0) h
theorem Holds.free {w : World} {g : Nat} {t : TypeId} {cs : Array Value} (h : Holds w g t cs) (i : Nat) : w.frozen? ⟨g, i, none⟩ = false := by
  unfold Holds at h; simp [World.frozen?, h]
theorem Holds.new (w : World) (t : TypeId) (cs : Array Value) : Holds (w.alloc (.cells cs t)) w.heap.size t cs := heap_alloc_new w _
theorem Holds.drew {w : World} {g : Nat} {t : TypeId} {cs : Array Value} (h : Holds w g t cs) : Holds w.drew g t cs := h
theorem Holds.drewN {w : World} {g : Nat} {t : TypeId} {cs : Array Value} (h : Holds w g t cs) (n : Nat) : Holds (w.drewN n) g t cs := h
theorem Holds.alloc {w : World} {g : Nat} {t : TypeId} {cs : Array Value} (h : Holds w g t cs) (o : Obj) : Holds (w.alloc o) g t cs := (Below.heap_alloc w o g h.lt).trans h
theorem Holds.set {w : World} {g : Nat} {t : TypeId} {cs : Array Value} (h : Holds w g t cs) (i : Nat) (u : Value) : Holds (w.setCell ⟨g, i, none⟩ u) g t (cs.setIfInBounds i u) := by
  unfold Holds at h ⊢; simp [World.setCell, Array.getElem?_modify, h]
theorem Holds.far {w : World} {g : Nat} {t : TypeId} {cs : Array Value} (h : Holds w g t cs) {p : Addr} (hp : g ≠ p.block) (u : Value) : Holds (w.setCell p u) g t cs := (Below.heap_setCell w p u g hp).trans h
theorem Holds.below {w w' : World} {B g : Nat} {t : TypeId} {cs : Array Value} (h : Holds w g t cs) (hb : Below B w w') (hg : g < B) : Holds w' g t cs := (hb.block g hg).trans h
theorem Holds.belowE {w w' : World} {X : List Nat} {B g : Nat} {t : TypeId} {cs : Array Value} (h : Holds w g t cs) (hb : BelowE X B w w') (hg : g < B) (hx : g ∉ X) : Holds w' g t cs := (hb.block g hg hx).trans h

/-- A slice value reads, in w, as the numbers l; its cells lie below block B, and in no block of X. -/
def SeesE (X : List Nat) (k : IntKind) (B : Nat) (w : World) (a : Option Addr) (l : List Int) : Prop :=
  l = [] ∨ ∃ b off, a = some ⟨b, off, none⟩ ∧ b < B ∧ b ∉ X ∧ ∀ i, i < l.length → w.cell? ⟨b, off + i, none⟩ = some (.int k (l.getD i 0))
theorem SeesE.sees {X k B w a l} (h : SeesE X k B w a l) : Sees k B w a l := by
  rcases h with h | ⟨b, off, h1, h2, _, h3⟩
  · exact .inl h
  · exact .inr ⟨b, off, h1, h2, h3⟩
theorem Sees.out {X k B w a l} (h : Sees k B w a l) (hx : ∀ x ∈ X, B ≤ x) : SeesE X k B w a l := by
  rcases h with h | ⟨b, off, h1, h2, h3⟩
  · exact .inl h
  · exact .inr ⟨b, off, h1, h2, fun hm => by have := hx b hm; omega, h3⟩
theorem SeesE.belowE {X k B w w' a l} (h : SeesE X k B w a l) (hb : BelowE X B w w') : SeesE X k B w' a l := by
  rcases h with h | ⟨b, off, rfl, hB, hx, hc⟩
  · exact .inl h
  · exact .inr ⟨b, off, rfl, hB, hx, fun i hi => (hb.cell (p := ⟨b, off + i, none⟩) hB hx).trans (hc i hi)⟩
theorem SeesE.mono {X k B B' w a l} (h : SeesE X k B w a l) (hb : B ≤ B') : SeesE X k B' w a l := by
  rcases h with h | ⟨b, off, rfl, hB, hx⟩
  · exact .inl h
  · exact .inr ⟨b, off, rfl, by omega, hx⟩
theorem SeesE.fewer {X Y k B w a l} (h : SeesE X k B w a l) (hXY : ∀ y ∈ Y, y < B → y ∈ X) : SeesE Y k B w a l := by
  rcases h with h | ⟨b, off, rfl, hB, hx, hc⟩
  · exact .inl h
  · exact .inr ⟨b, off, rfl, hB, fun hm => hx (hXY b hm hB), hc⟩

theorem Sees.drewN {k B w a l} (h : Sees k B w a l) (n : Nat) : Sees k B (w.drewN n) a l := h
theorem SeesE.drewN {X k B w a l} (h : SeesE X k B w a l) (n : Nat) : SeesE X k B (w.drewN n) a l := h
theorem Holds.ofDrewN {w : World} {g : Nat} {t : TypeId} {cs : Array Value} (n : Nat) (h : Holds (w.drewN n) g t cs) : Holds w g t cs := h
theorem BelowE.fromDrewN {X : List Nat} {B : Nat} {w w' : World} (n : Nat) (h : BelowE X B (w.drewN n) w') : BelowE X B w w' := ⟨h.os, h.tape, h.output, h.size, h.block⟩
theorem BelowE.fromDrew {X : List Nat} {B : Nat} {w w' : World} (h : BelowE X B w.drew w') : BelowE X B w w' := ⟨h.os, h.tape, h.output, h.size, h.block⟩
theorem Below.fromDrew {B : Nat} {w w' : World} (h : Below B w.drew w') : Below B w w' := ⟨h.os, h.tape, h.output, h.size, h.block⟩
theorem Below.fromDrewN {B : Nat} {w w' : World} (n : Nat) (h : Below B (w.drewN n) w') : Below B w w' := ⟨h.os, h.tape, h.output, h.size, h.block⟩
theorem Below.drewN {B : Nat} {a w : World} (h : Below B a w) (n : Nat) : Below B a (w.drewN n) := ⟨h.os, h.tape, h.output, h.size, h.block⟩
/-- A contract of mine ('w = w'') inside a region that is walked quietly. -/
theorem quiet_mine {P : Program} {f : FuncId} {args : Array Value} {w : World} {n : Nat} {v : Value}
    (h : Calls P f args (w.drewN n) fun e w' => e = .returned v ∧ w.drewN n = w') : Calls P f args (w.drewN n) fun e w'' => e = .returned v ∧ ∃ m, w'' = w.drewN m :=
  h.mono fun _ _ ⟨he, hm⟩ => ⟨he, n, hm.symm⟩

/-- A cut of a slice that reads as l. -/
theorem SeesE.cut {X : List Nat} {k : IntKind} {B : Nat} {w : World} {a : Option Addr} {l : List Int} (h : SeesE X k B w a l) (lo hi cap : Nat) (hl : hi ≤ l.length) (hlo : lo ≤ hi) (hc : l.length ≤ cap) :
    ∃ a', sliced a lo hi cap 1 = .slice a' (hi - lo) (cap - lo) ∧ SeesE X k B w a' ((l.take hi).drop lo) := by
  unfold sliced
  refine ⟨_, rfl, ?_⟩
  by_cases h0 : lo = hi
  · left; subst h0; exact List.drop_of_length_le (by simp; omega)
  rcases h with rfl | ⟨b, off, rfl, hB, hX, hcell⟩
  · simp at hl; omega
  · right
    have h1 : ¬ (cap = lo) := by omega
    by_cases hz : lo = 0
    · subst hz
      refine ⟨b, off, by simp [Addr.add], hB, hX, fun i hi' => ?_⟩
      simp at hi'
      rw [hcell i (by omega)]
      have : i < hi := by omega
      simp [List.getD, this]
    · refine ⟨b, off + lo, by simp [Addr.add, h1, hz], hB, hX, fun i hi' => ?_⟩
      simp at hi'
      rw [Nat.add_assoc, hcell (lo + i) (by omega)]
      have : lo + i < hi := by omega
      simp [List.getD, this]
theorem Sees.cut {k : IntKind} {B : Nat} {w : World} {a : Option Addr} {l : List Int} (h : Sees k B w a l) (lo hi cap : Nat) (hl : hi ≤ l.length) (hlo : lo ≤ hi) (hc : l.length ≤ cap) :
    ∃ a', sliced a lo hi cap 1 = .slice a' (hi - lo) (cap - lo) ∧ Sees k B w a' ((l.take hi).drop lo) := by
  obtain ⟨a', h1, h2⟩ := (h.out (X := []) (by simp)).cut lo hi cap hl hlo hc
  exact ⟨a', h1, h2.sees⟩
end Go.Proofs.YtpbminoefmpmpaaDoor
