/-
  Words and walks under the law's proof.
-/
import Derived.WalkKit
import Derived.LoopTactic
import Derived.Outline
import Derived.Lib.Hide
import Derived.Laws.BytesArg
import Derived.Laws.AppendOwnNone
import Derived.Deep.RegionHeld3
import Derived.Deep.DrawnRows
import Derived.Deep.Draws
import Derived.Deep.QuietTactic
import Derived.BigQuiet
import Derived.WalkSmall
import Derived.Test.YtimgocfkogebmaaGreatDoorRows
import Derived.Laws.Rows
import Derived.Laws.Tables
import Derived.Laws.EntriesVeiled
import Derived.Lib.OthersKept
import Derived.Shelf.Small.Bits
import Derived.Shelf.Small.Wraps
import Derived.Shelf.Strconv.Itoa0
import Derived.Shelf.Strconv.Itoa1
import Derived.Shelf.LaysM
import Derived.Shelf.Strconv.Itoa2
import Derived.Shelf.Strconv.Itoa3
import Derived.Shelf.GgClosure.StringsIndexFunc
import Derived.Ground.GgwProg
import Derived.Shelf.GgClosure.StringsIndexFuncTop
import Derived.Shelf.GgClosure.StringsRunes
import Derived.Shelf.Strings.Prefix
import Derived.Shelf.Strings.FuncGrows
import Derived.Shelf.Slices.Turned
import Derived.Shelf.Slices.Equal
import Derived.Ground.Names2Prog
import Derived.Shelf.Slices.Clone
import Derived.Shelf.Slices.SearchI
import Derived.Shelf.Slices.Empties2
import Derived.Ground.SlgnProg
import Derived.Shelf.SlicesE.Clone
import Derived.Test.YtimgocfkogebmaaGreatDoorProg
namespace Go.Proofs.YtimgocfkogebmaaGreatDoor
open Go.RowKit
set_option linter.unusedVariables false
def nums (k : IntKind) (l : List Int) : List Value := l.map (Value.int k)
theorem nums_snoc (k : IntKind) (l : List Int) (x : Int) : nums k (l ++ [x]) = nums k l ++ [.int k x] := by simp [nums]
def Sees (k : IntKind) (B : Nat) (w : World) (a : Option Addr) (l : List Int) : Prop :=
  l = [] ∨ ∃ b off, a = some ⟨b, off, none⟩ ∧ b < B ∧ ∀ i, i < l.length → w.cell? ⟨b, off + i, none⟩ = some (.int k (l.getD i 0))
theorem Sees.below {k B w w' a l} (h : Sees k B w a l) (hb : Below B w w') : Sees k B w' a l := by
  rcases h with h | ⟨b, off, rfl, hB, hc⟩
  · exact .inl h
  · exact .inr ⟨b, off, rfl, hB, fun i hi => (hb.cell (p := ⟨b, off + i, none⟩) hB).trans (hc i hi)⟩
theorem Sees.mono {k B B' w a l} (h : Sees k B w a l) (hb : B ≤ B') : Sees k B' w a l := by
  rcases h with h | ⟨b, off, rfl, hB, hc⟩
  · exact .inl h
  · exact .inr ⟨b, off, rfl, by omega, hc⟩
theorem Sees.nil {k B w a} : Sees k B w a [] := .inl rfl
theorem sees_own {k : IntKind} {w : World} {base : Nat} {e : TypeId} {v : Value} {n : Nat} {l : List Int} (h : w.ownsRow base e 1 v n (nums k l)) :
    ∃ a cap, v = .slice a l.length cap ∧ n = l.length ∧ Sees k w.heap.size w a l := by
  have hn : n = l.length := by have := h.1; simp [nums] at this; omega
  rcases h.2 with ⟨rfl, h0⟩ | ⟨g, cap, cur, rfl, _, hg, _⟩
  · subst hn
    exact ⟨none, 0, by rw [h0], rfl, .inl (List.eq_nil_of_length_eq_zero h0)⟩
  · subst hn
    refine ⟨_, cap, rfl, rfl, .inr ⟨g, 0, rfl, (Array.getElem?_eq_some_iff.1 hg).1, fun i hi => ?_⟩⟩
    have := h.cells (g := g) rfl i (.int k (l.getD i 0)) (by simp [nums, List.getD, hi])
    have h2 : (⟨g, 0, none⟩ : Addr).add i = ⟨g, 0 + i, none⟩ := by unfold Addr.add; split <;> simp_all
    rw [h2] at this
    exact this
def Made (e0 : TypeId) (k : IntKind) (w : World) (l : List Int) (e : Ending) (w' : World) : Prop :=
  ∃ v, e = .returned v ∧ w'.ownsRow w.heap.size e0 1 v l.length (nums k l) ∧ Below w.heap.size w w'
def Gives (v : Value) (w : World) (e : Ending) (w' : World) : Prop := e = .returned v ∧ Below w.heap.size w w'
theorem wpList_append1 {P : Program} (w : World) {ops : Array Oper} {rest : List Oper} {o : Oper} {a : Act} {Q : Exit → Act → World → Prop}
    (hg : o.guard = none) (s x : Operand) (t : TypeId) (hop : o.op = Op.call { callee := Callee.builtin Builtin.append, args := #[s, x], argTypes := #[t, t] })
    (w0 : World) (e : TypeId) (i : TypeInfo) (z : Value) (bytes : Nat) (ht : P.underlying t = some (.slice e)) (hi : P.info? e = some i) (hz : i.zero = some z)
    (hsize : i.size = 1) (hby : i.bytes = bytes) (hzs : z.cells.size = 1) (k : IntKind) (y : Int)
    (v : Value) (l : List Int) (hown : w.ownsRow w0.heap.size e 1 v l.length (nums k l)) (hb : Below w0.heap.size w0 w)
    (hs : a.eval s = v) (hx : a.eval x = .slice (some ⟨w.heap.size, 0, none⟩) 1 1)
    (hn : l.length < 17592186044416) (h8 : bytes ≤ 8)
    (hK : ∀ v' w', w'.ownsRow w0.heap.size e 1 v' (l ++ [y]).length (nums k (l ++ [y])) → Below w0.heap.size w0 w' → wpList P ops Q rest (a.put o.dst v') w') :
    wpList P ops Q (o :: rest) a (w.alloc (.cells #[.int k y] e)) := by
  have hm : (l.length + 1) * bytes ≤ 140737488355328 := Nat.le_trans (Nat.mul_le_mul (by omega : l.length + 1 ≤ 17592186044416) h8) (by omega)
  refine wpList_append_own _ hg s x t hop w0.heap.size e i z 1 bytes ht hi hz hsize hby hzs (by omega) v l.length (nums k l) hs (hown.alloc _) ⟨w.heap.size, 0, none⟩ 1 1 [.int k y] hx rfl ?_ ?_ (by unfold maxLen; omega) hm ?_ ?_
  · intro j u hj
    match j, hj with
    | 0, hj => simp at hj; subst hj; simp [Addr.add]
  · intro u hu; simp at hu; subst hu; rfl
  · have := hb.size; simp; omega
  · intro v' w' hown' hgrow _
    refine hK v' w' (by rw [nums_snoc, List.length_append]; exact hown') ?_
    refine (hb.alloc hb.size _).grown hgrow (by have := hb.size; simp; omega) fun q hq => ?_
    exact (hown.lt q hq).1
def Bs (l : List Int) : Prop := ∀ x ∈ l, 0 ≤ x ∧ x ≤ 255
theorem Bs.at {l : List Int} (h : Bs l) {i : Nat} (hi : i < l.length) : 0 ≤ l.getD i 0 ∧ l.getD i 0 ≤ 255 := by
  simp only [List.getD, List.getElem?_eq_getElem hi, Option.getD_some]
  exact h _ (List.getElem_mem _)
theorem ret_bool {a b : Bool} (h : a = b) : Ending.returned (.bool a) = Ending.returned (.bool b) := by rw [h]
theorem ret_int {k : IntKind} {a b : Int} (h : a = b) : Ending.returned (.int k a) = Ending.returned (.int k b) := by rw [h]
theorem Made.open {e0 : TypeId} {k : IntKind} {w w' : World} {l : List Int} {e : Ending} (h : Made e0 k w l e w') (n : Nat) (hn : l.length = n) :
    ∃ a cap, e = .returned (.slice a n cap) ∧ Sees k w'.heap.size w' a l ∧ Below w.heap.size w w' := by
  subst hn
  obtain ⟨v, rfl, hown, hb⟩ := h
  obtain ⟨a, cap, rfl, _, hs⟩ := sees_own hown
  exact ⟨a, cap, rfl, hs, hb⟩
theorem Sees.take {k : IntKind} {B : Nat} {w : World} {a : Option Addr} {l : List Int} (h : Sees k B w a l) (n : Nat) : Sees k B w a (l.take n) := by
  rcases h with rfl | ⟨b, off, rfl, hB, hc⟩
  · left; simp
  · refine .inr ⟨b, off, rfl, hB, fun i hi => ?_⟩
    have h1 : i < l.length := by simp at hi; omega
    have h2 : i < n := by simp at hi; omega
    rw [hc i h1]
    simp [List.getD, h2]
theorem Bs.take {l : List Int} (h : Bs l) (n : Nat) : Bs (l.take n) := fun x hx => h x (List.mem_of_mem_take hx)
theorem own_cap {k : IntKind} {w : World} {base : Nat} {e : TypeId} {n : Nat} {l : List Int} {a : Option Addr} {m c : Nat} (h : w.ownsRow base e 1 (.slice a m c) n (nums k l)) : m ≤ c := by
  rcases h.2 with ⟨h1, _⟩ | ⟨g, cap, cur, h1, _, _, h2, _⟩
  · injection h1 with _ h2 h3; omega
  · injection h1 with _ h3 h4; omega
theorem Made.openc {e0 : TypeId} {k : IntKind} {w w' : World} {l : List Int} {e : Ending} (h : Made e0 k w l e w') (n : Nat) (hn : l.length = n) :
    ∃ a cap, e = .returned (.slice a n cap) ∧ Sees k w'.heap.size w' a l ∧ Below w.heap.size w w' ∧ n ≤ cap := by
  subst hn
  obtain ⟨v, rfl, hown, hb⟩ := h
  obtain ⟨a, cap, rfl, _, hs⟩ := sees_own hown
  exact ⟨a, cap, rfl, hs, hb, own_cap hown⟩
end Go.Proofs.YtimgocfkogebmaaGreatDoor
namespace Go.Proofs.YtimgocfkogebmaaGreatDoor
open Go.RowKit
set_option linter.unusedVariables false
def codes (s : ByteArray) : List Int := s.data.toList.map fun b => (b.toNat : Int)
theorem codes_length (s : ByteArray) : (codes s).length = s.size := by
  unfold codes; rw [List.length_map, Array.length_toList]; rfl
theorem codes_at (s : ByteArray) (k : Nat) (h : k < s.size) : (codes s).getD k 0 = ((s[k]'h).toNat : Int) := by
  have h2 : k < s.data.toList.length := by rw [Array.length_toList]; exact h
  simp only [codes, List.getD, List.getElem?_map, List.getElem?_eq_getElem h2, Option.map_some, Option.getD_some]
  rfl
end Go.Proofs.YtimgocfkogebmaaGreatDoor
namespace Go.Proofs.YtimgocfkogebmaaGreatDoor
open Go.RowKit
set_option linter.unusedVariables false
theorem run_append_none {P : Program} (w : World) (base : Nat) (t ty e : TypeId) (i : TypeInfo) (size : Nat) (ht : P.underlying t = some (.slice e)) (hi : P.info? e = some i)
    (v : Value) (n : Nat) (xs : List Value) (hown : w.ownsRow base e size v n xs) (c : Nat) : (Builtin.append_ #[t, t] ty #[v, .slice none 0 c]).run P w = .ok v w := by
  rcases hown.2 with ⟨rfl, rfl⟩ | ⟨g, cap, cur, rfl, _, _, hnc, _⟩
  · simp [Builtin.append_, run_underlying ht, sizeOf, typeInfo, hi, Builtin.lenOf, Builtin.firstCells]
  · simp [Builtin.append_, run_underlying ht, sizeOf, typeInfo, hi, Builtin.lenOf, Builtin.firstCells, hnc, storeCells]
theorem run_append_sees {P : Program} (w : World) (t ty : TypeId) (w0 : World) (e : TypeId) (i : TypeInfo) (z : Value) (bytes : Nat) (ht : P.underlying t = some (.slice e)) (hi : P.info? e = some i) (hz : i.zero = some z)
    (hsize : i.size = 1) (hby : i.bytes = bytes) (hzs : z.cells.size = 1) (k : IntKind)
    (v : Value) (l : List Int) (hown : w.ownsRow w0.heap.size e 1 v l.length (nums k l)) (hb : Below w0.heap.size w0 w)
    (B : Nat) (A : Option Addr) (r : List Int) (hs : Sees k B w A r) (m c : Nat) (hm : m = r.length)
    (hn : l.length + r.length < 17592186044416) (h8 : bytes ≤ 8) :
    ∃ v' w', (Builtin.append_ #[t, t] ty #[v, .slice A m c]).run P w = .ok v' w' ∧ w'.ownsRow w0.heap.size e 1 v' (l ++ r).length (nums k (l ++ r)) ∧ Below w0.heap.size w0 w' := by
  subst hm
  have hlen : (nums k r).length = r.length * 1 := by simp [nums]
  have hall : ∀ u ∈ nums k r, u.oneCell' = true := by
    intro u hu
    obtain ⟨x, _, rfl⟩ := List.mem_map.1 hu
    rfl
  have hmx : (l.length + r.length) * bytes ≤ 140737488355328 := Nat.le_trans (Nat.mul_le_mul (by omega : l.length + r.length ≤ 17592186044416) h8) (by omega)
  have go : ∀ ad : Addr, A = some ad → (∀ j u, (nums k r)[j]? = some u → w.cell? (ad.add j) = some u) →
      ∃ v' w', (Builtin.append_ #[t, t] ty #[v, .slice A r.length c]).run P w = .ok v' w' ∧ w'.ownsRow w0.heap.size e 1 v' (l ++ r).length (nums k (l ++ r)) ∧ Below w0.heap.size w0 w' := by
    intro ad hA hc
    subst hA
    obtain ⟨v', w', hrun, h2, h3, _⟩ := run_append_own (P := P) w w0.heap.size t ty e i z 1 bytes ht hi hz hsize hby hzs (by omega) v l.length (nums k l) hown ad r.length c (nums k r) hlen hc hall (by unfold maxLen; omega) hmx hb.size
    refine ⟨v', w', hrun, ?_, hb.grown h3 hb.size fun q hq => (hown.lt q hq).1⟩
    rw [List.length_append]
    have e1 : nums k (l ++ r) = nums k l ++ nums k r := by simp [nums]
    rw [e1]; exact h2
  rcases hs with rfl | ⟨b, off, rfl, _, hc⟩
  · cases A with
    | none => exact ⟨v, w, run_append_none w _ t ty e i 1 ht hi v _ _ hown c, by simpa using hown, hb⟩
    | some ad => exact go ad rfl (by simp [nums])
  · refine go _ rfl fun j u hj => ?_
    have hjr : j < r.length := by
      have := (List.getElem?_eq_some_iff.1 hj).1
      simpa [nums] using this
    have h2 : (⟨b, off, none⟩ : Addr).add j = ⟨b, off + j, none⟩ := by unfold Addr.add; split <;> simp_all
    rw [h2, hc j hjr]
    simp [nums, hjr] at hj
    simp [List.getD, hjr, hj]
theorem wpList_append_sees {P : Program} (w : World) {ops : Array Oper} {rest : List Oper} {o : Oper} {a : Act} {Q : Exit → Act → World → Prop}
    (hg : o.guard = none) (s x : Operand) (t : TypeId) (hop : o.op = Op.call { callee := Callee.builtin Builtin.append, args := #[s, x], argTypes := #[t, t] })
    (w0 : World) (e : TypeId) (i : TypeInfo) (z : Value) (bytes : Nat) (ht : P.underlying t = some (.slice e)) (hi : P.info? e = some i) (hz : i.zero = some z)
    (hsize : i.size = 1) (hby : i.bytes = bytes) (hzs : z.cells.size = 1) (k : IntKind)
    (v : Value) (l : List Int) (hown : w.ownsRow w0.heap.size e 1 v l.length (nums k l)) (hb : Below w0.heap.size w0 w)
    (B : Nat) (A : Option Addr) (r : List Int) (hs : Sees k B w A r) (m c : Nat) (hm : m = r.length)
    (hsv : a.eval s = v) (hx : a.eval x = .slice A m c) (hn : l.length + r.length < 17592186044416) (h8 : bytes ≤ 8)
    (hK : ∀ v' w', w'.ownsRow w0.heap.size e 1 v' (l ++ r).length (nums k (l ++ r)) → Below w0.heap.size w0 w' → wpList P ops Q rest (a.put o.dst v') w') :
    wpList P ops Q (o :: rest) a w := by
  obtain ⟨v', w', hrun, h1, h2⟩ := run_append_sees (P := P) w t o.type w0 e i z bytes ht hi hz hsize hby hzs k v l hown hb B A r hs m c hm hn h8
  refine wpList_plain hg fun K hK' => ?_
  unfold Oper.wp
  simp [execOp, hop, resolve, invoke, builtin, hsv, hx, hrun, Result.andThen]
  exact hK' _ _ (hK v' w' h1 h2)
theorem own_empty {w w1 : World} (e : TypeId) (k : IntKind) (hb : Below w.heap.size w w1) : (w1.alloc (.cells #[] e)).ownsRow w.heap.size e 1 (.slice (some ⟨w1.heap.size, 0, none⟩) 0 0) ([] : List Int).length (nums k []) :=
  World.ownsRow_made w1 #[] 0 hb.size (by decide) (by simp)
end Go.Proofs.YtimgocfkogebmaaGreatDoor
namespace Go.Proofs.YtimgocfkogebmaaGreatDoor
open Go.RowKit
set_option linter.unusedVariables false
theorem wpAnyH_mono {P : Program} {md : Region.Mode} {ops : Array Oper} {Q : Exit → Act → World → Prop} {S S' : World → Prop} (hS : ∀ w, S' w → S w) :
    ∀ (fuel : Nat) (listed : Array Bool) (a : Act) (w : World), wpAnyH P md ops Q S' fuel listed a w → wpAnyH P md ops Q S fuel listed a w
  | 0, _, _, _, h => h
  | fuel + 1, _, _, _, h => ⟨h.1, fun i hi => wpOp_mono (fun a' w' h' => ⟨hS w' h'.1, wpAnyH_mono hS fuel _ a' w' h'.2⟩) (h.2 i hi)⟩
theorem wpAnyH_now {P : Program} {md : Region.Mode} {ops : Array Oper} {Q : Exit → Act → World → Prop} {w0 w : World} {fuel : Nat} {listed : Array Bool} {a : Act} (hb : Below w0.heap.size w0 w)
    (h : Below w.heap.size w w → wpAnyH P md ops Q (fun w' => Below w.heap.size w w') fuel listed a w) : wpAnyH P md ops Q (fun w' => Below w0.heap.size w0 w') fuel listed a w :=
  wpAnyH_mono (fun w' h' => hb.trans (h'.mono hb.size)) _ _ _ _ (h (Below.refl _ _))
theorem rebase {w0 w1 : World} {C : World → Prop} (h : ∀ W, Below w0.heap.size w0 W → C W) (hb : Below w0.heap.size w0 w1) : ∀ W, Below w1.heap.size w1 W → C W :=
  fun W hW => h W (hb.trans (hW.mono hb.size))
theorem wp_drawn {P : Program} {ops : Array Oper} {Q : Exit → Act → World → Prop} {id : Nat} {a : Act} {w : World} (hm : P.follows .mixedOrders = true)
    (h : Below w.heap.size w w.drew → wpAnyH P .any ops Q (fun w' => Below w.heap.size w w') ops.size (Array.replicate ops.size false) a w.drew) : (Code.region id ops true).wp P Q a w :=
  wp_region_held_drew hm ((Below.refl _ _).drew) h
theorem wp_drawn_on (S : World → Prop) {P : Program} {ops : Array Oper} {Q : Exit → Act → World → Prop} {id : Nat} {a : Act} {w : World} (hm : P.follows .mixedOrders = true) (hS : S w.drew)
    (h : S w.drew → wpAnyH P .any ops Q S ops.size (Array.replicate ops.size false) a w.drew) : (Code.region id ops true).wp P Q a w :=
  wp_region_held_drew hm hS h
end Go.Proofs.YtimgocfkogebmaaGreatDoor
namespace Go.Proofs.YtimgocfkogebmaaGreatDoor
open Go.RowKit
set_option linter.unusedVariables false
structure BelowE (X : List Nat) (B : Nat) (w w' : World) : Prop where
  os : w'.os = w.os
  tape : w'.tape = w.tape
  output : w'.output = w.output
  size : w.heap.size ≤ w'.heap.size
  block : ∀ k, k < B → k ∉ X → w'.heap[k]? = w.heap[k]?
theorem BelowE.refl (X : List Nat) (B : Nat) (w : World) : BelowE X B w w := ⟨rfl, rfl, rfl, Nat.le_refl _, fun _ _ _ => rfl⟩
theorem BelowE.of {X : List Nat} {B : Nat} {w w' : World} (h : Below B w w') : BelowE X B w w' := ⟨h.os, h.tape, h.output, h.size, fun k hk _ => h.block k hk⟩
theorem BelowE.none {B : Nat} {w w' : World} (h : BelowE [] B w w') : Below B w w' := ⟨h.os, h.tape, h.output, h.size, fun k hk => h.block k hk (by simp)⟩
theorem BelowE.trans {X : List Nat} {B : Nat} {a b c : World} (h : BelowE X B a b) (k : BelowE X B b c) : BelowE X B a c :=
  ⟨k.os.trans h.os, k.tape.trans h.tape, k.output.trans h.output, Nat.le_trans h.size k.size, fun i hi hx => (k.block i hi hx).trans (h.block i hi hx)⟩
theorem BelowE.mono {X : List Nat} {B B' : Nat} {w w' : World} (h : BelowE X B w w') (hB : B' ≤ B) : BelowE X B' w w' :=
  ⟨h.os, h.tape, h.output, h.size, fun k hk hx => h.block k (Nat.lt_of_lt_of_le hk hB) hx⟩
theorem BelowE.less {X Y : List Nat} {B : Nat} {w w' : World} (h : BelowE X B w w') (hX : ∀ x ∈ X, x < B → x ∈ Y) : BelowE Y B w w' :=
  ⟨h.os, h.tape, h.output, h.size, fun k hk hx => h.block k hk fun hm => hx (hX k hm hk)⟩
theorem BelowE.drew {X : List Nat} {B : Nat} {a w : World} (h : BelowE X B a w) : BelowE X B a w.drew := ⟨h.os, h.tape, h.output, h.size, h.block⟩
theorem BelowE.drewN {X : List Nat} {B : Nat} {a w : World} (h : BelowE X B a w) (n : Nat) : BelowE X B a (w.drewN n) := ⟨h.os, h.tape, h.output, h.size, h.block⟩
theorem BelowE.alloc {X : List Nat} {B : Nat} {a w : World} (h : BelowE X B a w) (hB : B ≤ w.heap.size) (o : Obj) : BelowE X B a (w.alloc o) :=
  h.trans (.of ((Below.refl B w).alloc hB o))
theorem BelowE.setIn {X : List Nat} {B : Nat} {a w : World} (h : BelowE X B a w) {p : Addr} (hp : p.block ∈ X) (u : Value) : BelowE X B a (w.setCell p u) :=
  h.trans ⟨rfl, rfl, rfl, by simp [World.setCell], fun k _ hx => Below.heap_setCell _ _ _ _ (fun e => hx (e ▸ hp))⟩
theorem BelowE.cell {X : List Nat} {B : Nat} {w w' : World} (h : BelowE X B w w') {p : Addr} (hp : p.block < B) (hx : p.block ∉ X) : w'.cell? p = w.cell? p := World.cell?_of_block (w := w) (h.block p.block hp hx)
def Holds (w : World) (g : Nat) (t : TypeId) (cs : Array Value) : Prop := w.heap[g]? = some (.cells cs t (0, 0))
theorem Holds.lt {w : World} {g : Nat} {t : TypeId} {cs : Array Value} (h : Holds w g t cs) : g < w.heap.size := (Array.getElem?_eq_some_iff.1 h).1
theorem Holds.cell {w : World} {g : Nat} {t : TypeId} {cs : Array Value} (h : Holds w g t cs) (i : Nat) : w.cell? ⟨g, i, none⟩ = cs[i]? := cell_of_row w g i cs t (0, 0) h
theorem Holds.free {w : World} {g : Nat} {t : TypeId} {cs : Array Value} (h : Holds w g t cs) (i : Nat) : w.frozen? ⟨g, i, none⟩ = false := by
  unfold Holds at h; simp [World.frozen?, h]
theorem Holds.new (w : World) (t : TypeId) (cs : Array Value) : Holds (w.alloc (.cells cs t)) w.heap.size t cs := heap_alloc_new w _
theorem Holds.drew {w : World} {g : Nat} {t : TypeId} {cs : Array Value} (h : Holds w g t cs) : Holds w.drew g t cs := h
theorem Holds.drewN {w : World} {g : Nat} {t : TypeId} {cs : Array Value} (h : Holds w g t cs) (n : Nat) : Holds (w.drewN n) g t cs := h
theorem Holds.alloc {w : World} {g : Nat} {t : TypeId} {cs : Array Value} (h : Holds w g t cs) (o : Obj) : Holds (w.alloc o) g t cs := (Below.heap_alloc w o g h.lt).trans h
theorem Holds.set {w : World} {g : Nat} {t : TypeId} {cs : Array Value} (h : Holds w g t cs) (i : Nat) (u : Value) : Holds (w.setCell ⟨g, i, none⟩ u) g t (cs.setIfInBounds i u) := by
  unfold Holds at h ⊢; simp [World.setCell, Array.getElem?_modify, h]
theorem Holds.far {w : World} {g : Nat} {t : TypeId} {cs : Array Value} (h : Holds w g t cs) {p : Addr} (hp : g ≠ p.block) (u : Value) : Holds (w.setCell p u) g t cs := (Below.heap_setCell w p u g hp).trans h
theorem Holds.below {w w' : World} {B g : Nat} {t : TypeId} {cs : Array Value} (h : Holds w g t cs) (hb : Below B w w') (hg : g < B) : Holds w' g t cs := (hb.block g hg).trans h
theorem Holds.belowE {w w' : World} {X : List Nat} {B g : Nat} {t : TypeId} {cs : Array Value} (h : Holds w g t cs) (hb : BelowE X B w w') (hg : g < B) (hx : g ∉ X) : Holds w' g t cs := (hb.block g hg hx).trans h
def SeesE (X : List Nat) (k : IntKind) (B : Nat) (w : World) (a : Option Addr) (l : List Int) : Prop :=
  l = [] ∨ ∃ b off, a = some ⟨b, off, none⟩ ∧ b < B ∧ b ∉ X ∧ ∀ i, i < l.length → w.cell? ⟨b, off + i, none⟩ = some (.int k (l.getD i 0))
theorem SeesE.sees {X k B w a l} (h : SeesE X k B w a l) : Sees k B w a l := by
  rcases h with h | ⟨b, off, h1, h2, _, h3⟩
  · exact .inl h
  · exact .inr ⟨b, off, h1, h2, h3⟩
theorem Sees.out {X k B w a l} (h : Sees k B w a l) (hx : ∀ x ∈ X, B ≤ x) : SeesE X k B w a l := by
  rcases h with h | ⟨b, off, h1, h2, h3⟩
  · exact .inl h
  · exact .inr ⟨b, off, h1, h2, fun hm => by have := hx b hm; omega, h3⟩
theorem SeesE.belowE {X k B w w' a l} (h : SeesE X k B w a l) (hb : BelowE X B w w') : SeesE X k B w' a l := by
  rcases h with h | ⟨b, off, rfl, hB, hx, hc⟩
  · exact .inl h
  · exact .inr ⟨b, off, rfl, hB, hx, fun i hi => (hb.cell (p := ⟨b, off + i, none⟩) hB hx).trans (hc i hi)⟩
theorem SeesE.mono {X k B B' w a l} (h : SeesE X k B w a l) (hb : B ≤ B') : SeesE X k B' w a l := by
  rcases h with h | ⟨b, off, rfl, hB, hx⟩
  · exact .inl h
  · exact .inr ⟨b, off, rfl, by omega, hx⟩
theorem Sees.drewN {k B w a l} (h : Sees k B w a l) (n : Nat) : Sees k B (w.drewN n) a l := h
theorem SeesE.drewN {X k B w a l} (h : SeesE X k B w a l) (n : Nat) : SeesE X k B (w.drewN n) a l := h
theorem BelowE.fromDrew {X : List Nat} {B : Nat} {w w' : World} (h : BelowE X B w.drew w') : BelowE X B w w' := ⟨h.os, h.tape, h.output, h.size, h.block⟩
theorem Below.fromDrew {B : Nat} {w w' : World} (h : Below B w.drew w') : Below B w w' := ⟨h.os, h.tape, h.output, h.size, h.block⟩
theorem Below.drewN {B : Nat} {a w : World} (h : Below B a w) (n : Nat) : Below B a (w.drewN n) := ⟨h.os, h.tape, h.output, h.size, h.block⟩
theorem quiet_mine {P : Program} {f : FuncId} {args : Array Value} {w : World} {n : Nat} {v : Value}
    (h : Calls P f args (w.drewN n) fun e w' => e = .returned v ∧ w.drewN n = w') : Calls P f args (w.drewN n) fun e w'' => e = .returned v ∧ ∃ m, w'' = w.drewN m :=
  h.mono fun _ _ ⟨he, hm⟩ => ⟨he, n, hm.symm⟩
theorem SeesE.cut {X : List Nat} {k : IntKind} {B : Nat} {w : World} {a : Option Addr} {l : List Int} (h : SeesE X k B w a l) (lo hi cap : Nat) (hl : hi ≤ l.length) (hlo : lo ≤ hi) (hc : l.length ≤ cap) :
    ∃ a', sliced a lo hi cap 1 = .slice a' (hi - lo) (cap - lo) ∧ SeesE X k B w a' ((l.take hi).drop lo) := by
  unfold sliced
  refine ⟨_, rfl, ?_⟩
  by_cases h0 : lo = hi
  · left; subst h0; exact List.drop_of_length_le (by simp; omega)
  rcases h with rfl | ⟨b, off, rfl, hB, hX, hcell⟩
  · simp at hl; omega
  · right
    have h1 : ¬ (cap = lo) := by omega
    by_cases hz : lo = 0
    · subst hz
      refine ⟨b, off, by simp [Addr.add], hB, hX, fun i hi' => ?_⟩
      simp at hi'
      rw [hcell i (by omega)]
      have : i < hi := by omega
      simp [List.getD, this]
    · refine ⟨b, off + lo, by simp [Addr.add, h1, hz], hB, hX, fun i hi' => ?_⟩
      simp at hi'
      rw [Nat.add_assoc, hcell (lo + i) (by omega)]
      have : lo + i < hi := by omega
      simp [List.getD, this]
theorem Sees.cut {k : IntKind} {B : Nat} {w : World} {a : Option Addr} {l : List Int} (h : Sees k B w a l) (lo hi cap : Nat) (hl : hi ≤ l.length) (hlo : lo ≤ hi) (hc : l.length ≤ cap) :
    ∃ a', sliced a lo hi cap 1 = .slice a' (hi - lo) (cap - lo) ∧ Sees k B w a' ((l.take hi).drop lo) := by
  obtain ⟨a', h1, h2⟩ := (h.out (X := []) (by simp)).cut lo hi cap hl hlo hc
  exact ⟨a', h1, h2.sees⟩
end Go.Proofs.YtimgocfkogebmaaGreatDoor
namespace Go.Proofs.YtimgocfkogebmaaGreatDoor
open Go.RowKit
set_option linter.unusedVariables false
set_option linter.unusedSimpArgs false
def isVarB (x n : Int) : Bool := decide (1 ≤ x) && decide (x ≤ n)
def isTermB (x n : Int) : Bool := decide (0 ≤ x) && decide (x ≤ n)
def isValB (c : Int) : Bool := decide (-1099511627776 ≤ c) && decide (c ≤ 1099511627776)
def skipB (x y c d : Int) : Bool := (x == 0) && ((y == 0) && ((c == 0) && (d == 0)))
def letB (x y c d n : Int) : Bool := isVarB x n && (isTermB y n && (isValB c && (d == 0)))
def anyB (x y c d n : Int) : Bool := isVarB x n && ((y == 0) && (isValB c && (isValB d && decide (c ≤ d))))
def diffB (x y c d n : Int) : Bool := isTermB x n && (isTermB y n && ((x != y) && (isValB c && (d == 0))))
def stmtB (k x y c d n : Int) : Bool := if k = 1 then skipB x y c d else if k = 2 then letB x y c d n else if k = 3 then anyB x y c d n else diffB x y c d n
def rightB (k x y c d n : Int) : Bool := if n < 0 ∨ 8 < n ∨ k < 1 ∨ 5 < k then false else stmtB k x y c d n
def SetTo (v : Value) (w : World) (e : Ending) (w' : World) : Prop := e = .returned v ∧ w = w'
theorem isVar_any (x n : Int) (w : World) : Calls Tryz.prog 200 #[.int .i64 x, .int .i64 n] w (SetTo (.bool (isVarB x n)) w) := by
  by_cases h1 : 1 ≤ x
  · have hR : Hid (decide (x ≤ n) = isVarB x n) := Lib.hid (by unfold isVarB; rw [decide_eq_true h1, Bool.true_and])
    go_enter Tryz.func200, Tryz.ntmps200
    go_wp2
    go_ret
    exact ⟨ret_bool hR.out, rfl⟩
  · have hR : Hid (false = isVarB x n) := Lib.hid (by unfold isVarB; rw [decide_eq_false h1, Bool.false_and])
    go_enter Tryz.func200, Tryz.ntmps200
    go_wp2
    go_ret
    exact ⟨ret_bool hR.out, rfl⟩
theorem isTerm_any (x n : Int) (w : World) : Calls Tryz.prog 201 #[.int .i64 x, .int .i64 n] w (SetTo (.bool (isTermB x n)) w) := by
  by_cases h1 : 0 ≤ x
  · have hR : Hid (decide (x ≤ n) = isTermB x n) := Lib.hid (by unfold isTermB; rw [decide_eq_true h1, Bool.true_and])
    go_enter Tryz.func201, Tryz.ntmps201
    go_wp2
    go_ret
    exact ⟨ret_bool hR.out, rfl⟩
  · have hR : Hid (false = isTermB x n) := Lib.hid (by unfold isTermB; rw [decide_eq_false h1, Bool.false_and])
    go_enter Tryz.func201, Tryz.ntmps201
    go_wp2
    go_ret
    exact ⟨ret_bool hR.out, rfl⟩
theorem pclip_any (c : Int) (w : World) : Calls Tryz.prog 154 #[.int .i64 c] w (SetTo (.int .i64 (max (-1099511627776) (min 1099511627776 c))) w) := by
  by_cases h1 : 1099511627776 ≤ c
  · have h2 : ¬ c < 1099511627776 := by omega
    go_enter Tryz.func154, Tryz.ntmps154
    go_wp2
    go_ret
    exact ⟨ret_int (by omega), rfl⟩
  · have h2 : c < 1099511627776 := by omega
    by_cases h3 : -1099511627776 < c
    · have h4 : ¬ c ≤ -1099511627776 := by omega
      clear h1
      go_enter Tryz.func154, Tryz.ntmps154
      go_wp2
      go_ret
      exact ⟨ret_int (by omega), rfl⟩
    · have h4 : c ≤ -1099511627776 := by omega
      clear h1
      go_enter Tryz.func154, Tryz.ntmps154
      go_wp2
      go_ret
      exact ⟨ret_int (by omega), rfl⟩
theorem pis_any (c : Int) (w : World) : Calls Tryz.prog 112 #[.int .i64 c] w (SetTo (.bool (isValB c)) w) := by
  have hR : Hid ((c == max (-1099511627776) (min 1099511627776 c)) = isValB c) := Lib.hid (by
    unfold isValB
    rw [Bool.eq_iff_iff, beq_iff_eq, Bool.and_eq_true, decide_eq_true_iff, decide_eq_true_iff]
    omega)
  have hq := Lib.hid (pclip_any c w)
  generalize max (-1099511627776) (min 1099511627776 c) = v at *
  go_enter Tryz.func112, Tryz.ntmps112
  go_wp2_with fail
  refine hq.out.mono ?_
  rintro e w1 ⟨rfl, rfl⟩
  go_wp2
  go_ret
  exact ⟨ret_bool hR.out, rfl⟩
set_option maxRecDepth 100000 in
theorem rightSkip_any (k x y c d n : Int) (w : World) : Calls Tryz.prog 174 #[.agg #[.int .i64 k, .int .i64 x, .int .i64 y, .int .i64 c, .int .i64 d], .int .i64 n] w (Gives (.bool (skipB x y c d)) w) := by
  have hB := Lib.hid ((Below.refl w.heap.size w).alloc (Nat.le_refl _) (.cells #[.int .i64 k, .int .i64 x, .int .i64 y, .int .i64 c, .int .i64 d] 73))
  cases h0 : (x == 0)
  · have hR : Hid (false = skipB x y c d) := Lib.hid (by unfold skipB; simp only [h0, Bool.true_and, Bool.false_and, Bool.and_true, Bool.and_false, decide_true, decide_false])
    go_enter Tryz.func174, Tryz.ntmps174
    go_wp2
    go_ret
    exact ⟨ret_bool hR.out, hB.out⟩
  cases h1 : (y == 0)
  · have hR : Hid (false = skipB x y c d) := Lib.hid (by unfold skipB; simp only [h0, h1, Bool.true_and, Bool.false_and, Bool.and_true, Bool.and_false, decide_true, decide_false])
    go_enter Tryz.func174, Tryz.ntmps174
    go_wp2
    go_ret
    exact ⟨ret_bool hR.out, hB.out⟩
  cases h2 : (c == 0)
  · have hR : Hid (false = skipB x y c d) := Lib.hid (by unfold skipB; simp only [h0, h1, h2, Bool.true_and, Bool.false_and, Bool.and_true, Bool.and_false, decide_true, decide_false])
    go_enter Tryz.func174, Tryz.ntmps174
    go_wp2
    go_ret
    exact ⟨ret_bool hR.out, hB.out⟩
  cases h3 : (d == 0)
  · have hR : Hid (false = skipB x y c d) := Lib.hid (by unfold skipB; simp only [h0, h1, h2, h3, Bool.true_and, Bool.false_and, Bool.and_true, Bool.and_false, decide_true, decide_false])
    go_enter Tryz.func174, Tryz.ntmps174
    go_wp2
    go_ret
    exact ⟨ret_bool hR.out, hB.out⟩
  have hR : Hid (true = skipB x y c d) := Lib.hid (by unfold skipB; simp only [h0, h1, h2, h3, Bool.true_and, Bool.false_and, Bool.and_true, Bool.and_false, decide_true, decide_false])
  go_enter Tryz.func174, Tryz.ntmps174
  go_wp2
  go_ret
  exact ⟨ret_bool hR.out, hB.out⟩
set_option maxRecDepth 100000 in
theorem rightLet_any (k x y c d n : Int) (w : World) : Calls Tryz.prog 176 #[.agg #[.int .i64 k, .int .i64 x, .int .i64 y, .int .i64 c, .int .i64 d], .int .i64 n] w (Gives (.bool (letB x y c d n)) w) := by
  have hB := Lib.hid ((Below.refl w.heap.size w).alloc (Nat.le_refl _) (.cells #[.int .i64 k, .int .i64 x, .int .i64 y, .int .i64 c, .int .i64 d] 73))
  have q0 := Lib.hid (fun W => isVar_any x n W)
  cases h0 : isVarB x n
  · rw [h0] at q0
    have hR : Hid (false = letB x y c d n) := Lib.hid (by unfold letB; simp only [h0, Bool.true_and, Bool.false_and, Bool.and_true, Bool.and_false, decide_true, decide_false])
    go_enter Tryz.func176, Tryz.ntmps176
    go_wp2_with fail
    refine (q0.out _).mono ?_
    rintro e w0 ⟨rfl, rfl⟩
    go_wp2
    go_ret
    exact ⟨ret_bool hR.out, hB.out⟩
  rw [h0] at q0
  have q1 := Lib.hid (fun W => isTerm_any y n W)
  cases h1 : isTermB y n
  · rw [h1] at q1
    have hR : Hid (false = letB x y c d n) := Lib.hid (by unfold letB; simp only [h0, h1, Bool.true_and, Bool.false_and, Bool.and_true, Bool.and_false, decide_true, decide_false])
    go_enter Tryz.func176, Tryz.ntmps176
    go_wp2_with fail
    refine (q0.out _).mono ?_
    rintro e w0 ⟨rfl, rfl⟩
    go_wp2_with fail
    refine (q1.out _).mono ?_
    rintro e w1 ⟨rfl, rfl⟩
    go_wp2
    go_ret
    exact ⟨ret_bool hR.out, hB.out⟩
  rw [h1] at q1
  have q2 := Lib.hid (fun W => pis_any c W)
  cases h2 : isValB c
  · rw [h2] at q2
    have hR : Hid (false = letB x y c d n) := Lib.hid (by unfold letB; simp only [h0, h1, h2, Bool.true_and, Bool.false_and, Bool.and_true, Bool.and_false, decide_true, decide_false])
    go_enter Tryz.func176, Tryz.ntmps176
    go_wp2_with fail
    refine (q0.out _).mono ?_
    rintro e w0 ⟨rfl, rfl⟩
    go_wp2_with fail
    refine (q1.out _).mono ?_
    rintro e w1 ⟨rfl, rfl⟩
    go_wp2_with fail
    refine (q2.out _).mono ?_
    rintro e w2 ⟨rfl, rfl⟩
    go_wp2
    go_ret
    exact ⟨ret_bool hR.out, hB.out⟩
  rw [h2] at q2
  cases h3 : (d == 0)
  · have hR : Hid (false = letB x y c d n) := Lib.hid (by unfold letB; simp only [h0, h1, h2, h3, Bool.true_and, Bool.false_and, Bool.and_true, Bool.and_false, decide_true, decide_false])
    go_enter Tryz.func176, Tryz.ntmps176
    go_wp2_with fail
    refine (q0.out _).mono ?_
    rintro e w0 ⟨rfl, rfl⟩
    go_wp2_with fail
    refine (q1.out _).mono ?_
    rintro e w1 ⟨rfl, rfl⟩
    go_wp2_with fail
    refine (q2.out _).mono ?_
    rintro e w2 ⟨rfl, rfl⟩
    go_wp2
    go_ret
    exact ⟨ret_bool hR.out, hB.out⟩
  have hR : Hid (true = letB x y c d n) := Lib.hid (by unfold letB; simp only [h0, h1, h2, h3, Bool.true_and, Bool.false_and, Bool.and_true, Bool.and_false, decide_true, decide_false])
  go_enter Tryz.func176, Tryz.ntmps176
  go_wp2_with fail
  refine (q0.out _).mono ?_
  rintro e w0 ⟨rfl, rfl⟩
  go_wp2_with fail
  refine (q1.out _).mono ?_
  rintro e w1 ⟨rfl, rfl⟩
  go_wp2_with fail
  refine (q2.out _).mono ?_
  rintro e w2 ⟨rfl, rfl⟩
  go_wp2
  go_ret
  exact ⟨ret_bool hR.out, hB.out⟩
set_option maxRecDepth 100000 in
theorem rightAny_any (k x y c d n : Int) (w : World) : Calls Tryz.prog 178 #[.agg #[.int .i64 k, .int .i64 x, .int .i64 y, .int .i64 c, .int .i64 d], .int .i64 n] w (Gives (.bool (anyB x y c d n)) w) := by
  have hB := Lib.hid ((Below.refl w.heap.size w).alloc (Nat.le_refl _) (.cells #[.int .i64 k, .int .i64 x, .int .i64 y, .int .i64 c, .int .i64 d] 73))
  have q0 := Lib.hid (fun W => isVar_any x n W)
  cases h0 : isVarB x n
  · rw [h0] at q0
    have hR : Hid (false = anyB x y c d n) := Lib.hid (by unfold anyB; simp only [h0, Bool.true_and, Bool.false_and, Bool.and_true, Bool.and_false, decide_true, decide_false])
    go_enter Tryz.func178, Tryz.ntmps178
    go_wp2_with fail
    refine (q0.out _).mono ?_
    rintro e w0 ⟨rfl, rfl⟩
    go_wp2
    go_ret
    exact ⟨ret_bool hR.out, hB.out⟩
  rw [h0] at q0
  cases h1 : (y == 0)
  · have hR : Hid (false = anyB x y c d n) := Lib.hid (by unfold anyB; simp only [h0, h1, Bool.true_and, Bool.false_and, Bool.and_true, Bool.and_false, decide_true, decide_false])
    go_enter Tryz.func178, Tryz.ntmps178
    go_wp2_with fail
    refine (q0.out _).mono ?_
    rintro e w0 ⟨rfl, rfl⟩
    go_wp2
    go_ret
    exact ⟨ret_bool hR.out, hB.out⟩
  have q2 := Lib.hid (fun W => pis_any c W)
  cases h2 : isValB c
  · rw [h2] at q2
    have hR : Hid (false = anyB x y c d n) := Lib.hid (by unfold anyB; simp only [h0, h1, h2, Bool.true_and, Bool.false_and, Bool.and_true, Bool.and_false, decide_true, decide_false])
    go_enter Tryz.func178, Tryz.ntmps178
    go_wp2_with fail
    refine (q0.out _).mono ?_
    rintro e w0 ⟨rfl, rfl⟩
    go_wp2_with fail
    refine (q2.out _).mono ?_
    rintro e w2 ⟨rfl, rfl⟩
    go_wp2
    go_ret
    exact ⟨ret_bool hR.out, hB.out⟩
  rw [h2] at q2
  have q3 := Lib.hid (fun W => pis_any d W)
  cases h3 : isValB d
  · rw [h3] at q3
    have hR : Hid (false = anyB x y c d n) := Lib.hid (by unfold anyB; simp only [h0, h1, h2, h3, Bool.true_and, Bool.false_and, Bool.and_true, Bool.and_false, decide_true, decide_false])
    go_enter Tryz.func178, Tryz.ntmps178
    go_wp2_with fail
    refine (q0.out _).mono ?_
    rintro e w0 ⟨rfl, rfl⟩
    go_wp2_with fail
    refine (q2.out _).mono ?_
    rintro e w2 ⟨rfl, rfl⟩
    go_wp2_with fail
    refine (q3.out _).mono ?_
    rintro e w3 ⟨rfl, rfl⟩
    go_wp2
    go_ret
    exact ⟨ret_bool hR.out, hB.out⟩
  rw [h3] at q3
  cases h4 : decide (c ≤ d)
  · have h4p := of_decide_eq_false h4
    have hR : Hid (false = anyB x y c d n) := Lib.hid (by unfold anyB; simp only [h0, h1, h2, h3, h4, Bool.true_and, Bool.false_and, Bool.and_true, Bool.and_false, decide_true, decide_false])
    go_enter Tryz.func178, Tryz.ntmps178
    go_wp2_with fail
    refine (q0.out _).mono ?_
    rintro e w0 ⟨rfl, rfl⟩
    go_wp2_with fail
    refine (q2.out _).mono ?_
    rintro e w2 ⟨rfl, rfl⟩
    go_wp2_with fail
    refine (q3.out _).mono ?_
    rintro e w3 ⟨rfl, rfl⟩
    go_wp2
    go_ret
    exact ⟨ret_bool hR.out, hB.out⟩
  have h4p := of_decide_eq_true h4
  have hR : Hid (true = anyB x y c d n) := Lib.hid (by unfold anyB; simp only [h0, h1, h2, h3, h4, Bool.true_and, Bool.false_and, Bool.and_true, Bool.and_false, decide_true, decide_false])
  go_enter Tryz.func178, Tryz.ntmps178
  go_wp2_with fail
  refine (q0.out _).mono ?_
  rintro e w0 ⟨rfl, rfl⟩
  go_wp2_with fail
  refine (q2.out _).mono ?_
  rintro e w2 ⟨rfl, rfl⟩
  go_wp2_with fail
  refine (q3.out _).mono ?_
  rintro e w3 ⟨rfl, rfl⟩
  go_wp2
  go_ret
  exact ⟨ret_bool hR.out, hB.out⟩
set_option maxRecDepth 100000 in
theorem rightDiff_any (k x y c d n : Int) (w : World) : Calls Tryz.prog 180 #[.agg #[.int .i64 k, .int .i64 x, .int .i64 y, .int .i64 c, .int .i64 d], .int .i64 n] w (Gives (.bool (diffB x y c d n)) w) := by
  have hB := Lib.hid ((Below.refl w.heap.size w).alloc (Nat.le_refl _) (.cells #[.int .i64 k, .int .i64 x, .int .i64 y, .int .i64 c, .int .i64 d] 73))
  have q0 := Lib.hid (fun W => isTerm_any x n W)
  cases h0 : isTermB x n
  · rw [h0] at q0
    have hR : Hid (false = diffB x y c d n) := Lib.hid (by unfold diffB; simp only [h0, Bool.true_and, Bool.false_and, Bool.and_true, Bool.and_false, decide_true, decide_false])
    go_enter Tryz.func180, Tryz.ntmps180
    go_wp2_with fail
    refine (q0.out _).mono ?_
    rintro e w0 ⟨rfl, rfl⟩
    go_wp2
    go_ret
    exact ⟨ret_bool hR.out, hB.out⟩
  rw [h0] at q0
  have q1 := Lib.hid (fun W => isTerm_any y n W)
  cases h1 : isTermB y n
  · rw [h1] at q1
    have hR : Hid (false = diffB x y c d n) := Lib.hid (by unfold diffB; simp only [h0, h1, Bool.true_and, Bool.false_and, Bool.and_true, Bool.and_false, decide_true, decide_false])
    go_enter Tryz.func180, Tryz.ntmps180
    go_wp2_with fail
    refine (q0.out _).mono ?_
    rintro e w0 ⟨rfl, rfl⟩
    go_wp2_with fail
    refine (q1.out _).mono ?_
    rintro e w1 ⟨rfl, rfl⟩
    go_wp2
    go_ret
    exact ⟨ret_bool hR.out, hB.out⟩
  rw [h1] at q1
  cases h2 : (x != y)
  · have hR : Hid (false = diffB x y c d n) := Lib.hid (by unfold diffB; simp only [h0, h1, h2, Bool.true_and, Bool.false_and, Bool.and_true, Bool.and_false, decide_true, decide_false])
    go_enter Tryz.func180, Tryz.ntmps180
    go_wp2_with fail
    refine (q0.out _).mono ?_
    rintro e w0 ⟨rfl, rfl⟩
    go_wp2_with fail
    refine (q1.out _).mono ?_
    rintro e w1 ⟨rfl, rfl⟩
    go_wp2
    go_ret
    exact ⟨ret_bool hR.out, hB.out⟩
  have q3 := Lib.hid (fun W => pis_any c W)
  cases h3 : isValB c
  · rw [h3] at q3
    have hR : Hid (false = diffB x y c d n) := Lib.hid (by unfold diffB; simp only [h0, h1, h2, h3, Bool.true_and, Bool.false_and, Bool.and_true, Bool.and_false, decide_true, decide_false])
    go_enter Tryz.func180, Tryz.ntmps180
    go_wp2_with fail
    refine (q0.out _).mono ?_
    rintro e w0 ⟨rfl, rfl⟩
    go_wp2_with fail
    refine (q1.out _).mono ?_
    rintro e w1 ⟨rfl, rfl⟩
    go_wp2_with fail
    refine (q3.out _).mono ?_
    rintro e w3 ⟨rfl, rfl⟩
    go_wp2
    go_ret
    exact ⟨ret_bool hR.out, hB.out⟩
  rw [h3] at q3
  cases h4 : (d == 0)
  · have hR : Hid (false = diffB x y c d n) := Lib.hid (by unfold diffB; simp only [h0, h1, h2, h3, h4, Bool.true_and, Bool.false_and, Bool.and_true, Bool.and_false, decide_true, decide_false])
    go_enter Tryz.func180, Tryz.ntmps180
    go_wp2_with fail
    refine (q0.out _).mono ?_
    rintro e w0 ⟨rfl, rfl⟩
    go_wp2_with fail
    refine (q1.out _).mono ?_
    rintro e w1 ⟨rfl, rfl⟩
    go_wp2_with fail
    refine (q3.out _).mono ?_
    rintro e w3 ⟨rfl, rfl⟩
    go_wp2
    go_ret
    exact ⟨ret_bool hR.out, hB.out⟩
  have hR : Hid (true = diffB x y c d n) := Lib.hid (by unfold diffB; simp only [h0, h1, h2, h3, h4, Bool.true_and, Bool.false_and, Bool.and_true, Bool.and_false, decide_true, decide_false])
  go_enter Tryz.func180, Tryz.ntmps180
  go_wp2_with fail
  refine (q0.out _).mono ?_
  rintro e w0 ⟨rfl, rfl⟩
  go_wp2_with fail
  refine (q1.out _).mono ?_
  rintro e w1 ⟨rfl, rfl⟩
  go_wp2_with fail
  refine (q3.out _).mono ?_
  rintro e w3 ⟨rfl, rfl⟩
  go_wp2
  go_ret
  exact ⟨ret_bool hR.out, hB.out⟩
def kindsA : Array Value := #[.nilFunc, .nilFunc, .func (.func 174) #[] #[], .func (.func 175) #[] #[], .func (.func 176) #[] #[], .func (.func 177) #[] #[], .func (.func 178) #[] #[], .func (.func 179) #[] #[], .func (.func 180) #[] #[], .func (.func 181) #[] #[], .func (.func 180) #[] #[], .func (.func 182) #[] #[]]
theorem info_kinds : (Tryz.prog.info? 162).map (·.size) = some 12 := by kernel_rfl
theorem kinds_any (w : World) : Calls Tryz.prog 137 #[] w (Gives (.agg kindsA) w) := by
  go_enter Tryz.func137, Tryz.ntmps137
  go_wp2
  exact bodyPost_ret (v := .agg kindsA) (results_cell_row rfl _ _ w.heap.size 162 kindsA (0, 0) _ rfl (heap_alloc_new w (.cells kindsA 162)) Tryz.underlying162 rfl (by rw [info_kinds]; rfl)) rfl ⟨rfl, (Below.refl _ _).alloc (Nat.le_refl _) _⟩
set_option maxRecDepth 100000 in
theorem right_1 (x y c d n : Int) (b : Bool) (hn0 : 0 ≤ n) (hn8 : n ≤ 8)
    (hq : ∀ W, Calls Tryz.prog 174 #[.agg #[.int .i64 1, .int .i64 x, .int .i64 y, .int .i64 c, .int .i64 d], .int .i64 n] W (Gives (.bool b) W)) (w : World) :
    Calls Tryz.prog 136 #[.agg #[.int .i64 1, .int .i64 x, .int .i64 y, .int .i64 c, .int .i64 d], .int .i64 n] w (Gives (.bool b) w) := by
  obtain ⟨W1, hW1⟩ : ∃ W1, W1 = w.alloc (.cells #[.int .i64 1, .int .i64 x, .int .i64 y, .int .i64 c, .int .i64 d] 73) := ⟨_, rfl⟩
  have hB : Below w.heap.size w W1 := by rw [hW1]; exact (Below.refl _ _).alloc (Nat.le_refl _) _
  have hH : Holds W1 w.heap.size 73 #[.int .i64 1, .int .i64 x, .int .i64 y, .int .i64 c, .int .i64 d] := by rw [hW1]; exact Holds.new _ _ _
  have hW1' := Lib.hid hW1
  have k0 := hH.cell 0
  have hB' := Lib.hid hB
  have hH' := Lib.hid hH
  have hq' := Lib.hid hq
  have hix : ∀ W, (Instr.index 162 (.agg kindsA) (.int .i64 1)).run Tryz.prog W = .ok (.agg #[.func (.func 174) #[] #[], .func (.func 175) #[] #[]]) W := fun W => by kernel_rfl
  have hfd : ∀ W, (Instr.field 161 (.agg #[.func (.func 174) #[] #[], .func (.func 175) #[] #[]]) 0).run Tryz.prog W = .ok (.func (.func 174) #[] #[]) W := fun W => by kernel_rfl
  have hn1 : ¬ n < 0 := by omega
  have hn2 : ¬ 8 < n := by omega
  clear hB hH hW1 hq hn0 hn8
  go_enter Tryz.func136, Tryz.ntmps136
  go_wp2
  rw [← hW1'.out]
  have hc0 : ∀ W, Below W1.heap.size W1 W → W.cell? ⟨w.heap.size, 0, none⟩ = some (.int .i64 1) := fun W hW => (hH'.out.below hW hH'.out.lt).cell 0
  have hc1 : ∀ W, Below W1.heap.size W1 W → W.cell? ⟨w.heap.size, 1, none⟩ = some (.int .i64 x) := fun W hW => (hH'.out.below hW hH'.out.lt).cell 1
  have hc2 : ∀ W, Below W1.heap.size W1 W → W.cell? ⟨w.heap.size, 2, none⟩ = some (.int .i64 y) := fun W hW => (hH'.out.below hW hH'.out.lt).cell 2
  have hc3 : ∀ W, Below W1.heap.size W1 W → W.cell? ⟨w.heap.size, 3, none⟩ = some (.int .i64 c) := fun W hW => (hH'.out.below hW hH'.out.lt).cell 3
  have hc4 : ∀ W, Below W1.heap.size W1 W → W.cell? ⟨w.heap.size, 4, none⟩ = some (.int .i64 d) := fun W hW => (hH'.out.below hW hH'.out.lt).cell 4
  clear k0
  refine wp_drawn_on (fun W => Below W1.heap.size W1 W) (by kernel_rfl) ((Below.refl _ _).drew) (fun hHeld => ?_)
  refine wpAnyH_take (i := 1) (oi := { dst := some 22, op := Go.Op.fieldAddr 73 (Go.Operand.tmp 2) 0, type := 0, pos := "prog.go:130", after := #[], guard := none }) (v := ?v1) rfl (by kernel_rfl) (by kernel_rfl) (by kernel_rfl) (fun _ _ _ h => h) (Or.inl ⟨by kernel_rfl, ?h1⟩) (by assumption) ?r1
  case h1 => (intro w hSw; (try dsimp only at hSw); go_simp; try with_reducible rfl)
  try simp only [Act.put, List.setIfInBounds_toArray, List.set_cons_zero, List.set_cons_succ]
  refine wpAnyH_take (i := 2) (oi := { dst := some 23, op := Go.Op.load 3 (Go.Operand.tmp 22), type := 3, pos := "prog.go:130", after := #[{ on := 1, ground := Go.Ground.data }], guard := none }) (v := ?v2) rfl (by kernel_rfl) (by kernel_rfl) (by kernel_rfl) (fun _ _ _ h => h) (Or.inl ⟨by kernel_rfl, ?h2⟩) (by assumption) ?r2
  case h2 => (intro w hSw; (try dsimp only at hSw); go_simp; try with_reducible rfl)
  try simp only [Act.put, List.setIfInBounds_toArray, List.set_cons_zero, List.set_cons_succ]
  refine wpAnyH_take (i := 5) (oi := { dst := some 26, op := Go.Op.load 73 (Go.Operand.tmp 2), type := 73, pos := "prog.go:130", after := #[], guard := none }) (v := ?v3) rfl (by kernel_rfl) (by kernel_rfl) (by kernel_rfl) (fun _ _ _ h => h) (Or.inl ⟨by kernel_rfl, ?h3⟩) (by assumption) ?r3
  case h3 => (intro w hSw; (try dsimp only at hSw); go_simp; try with_reducible rfl)
  try simp only [Act.put, List.setIfInBounds_toArray, List.set_cons_zero, List.set_cons_succ]
  refine wpAnyH_take (i := 6) (oi := { dst := some 27, op := Go.Op.move (Go.Operand.tmp 1), type := 3, pos := "prog.go:130", after := #[], guard := none }) (v := ?v4) rfl (by kernel_rfl) (by kernel_rfl) (by kernel_rfl) (fun _ _ _ h => h) (Or.inl ⟨by kernel_rfl, ?h4⟩) (by assumption) ?r4
  case h4 => (intro w hSw; (try dsimp only at hSw); go_simp; try with_reducible rfl)
  try simp only [Act.put, List.setIfInBounds_toArray, List.set_cons_zero, List.set_cons_succ]
  refine wpAnyH_ready (rs := [0]) (by kernel_rfl) (by simp) ?_
  refine AllReadyH.cons (o := { dst := some 21, op := Go.Op.call { callee := Go.Callee.value (Go.Operand.func 137), args := #[], argTypes := #[] }, type := 162, pos := "prog.go:130", after := #[], guard := none }) rfl (fun K hK => ?_) AllReadyH.nil
  go_simp
  refine (kinds_any _).mono ?_
  rintro e u0 ⟨rfl, b0⟩
  have hx0 := hHeld.trans (b0.mono hHeld.size)
  go_simp
  refine hK.out _ _ (hx0) (fun hHeld => ?_)
  clear hK K
  try simp only [Act.put, List.setIfInBounds_toArray, List.set_cons_zero, List.set_cons_succ]
  refine wpAnyH_take (i := 3) (oi := { dst := some 24, op := Go.Op.index 162 (Go.Operand.tmp 21) (Go.Operand.tmp 23), type := 161, pos := "prog.go:130", after := #[{ on := 0, ground := Go.Ground.data }, { on := 2, ground := Go.Ground.data }], guard := none }) (v := ?v5) rfl (by kernel_rfl) (by kernel_rfl) (by kernel_rfl) (fun _ _ _ h => h) (Or.inl ⟨by kernel_rfl, ?h5⟩) (by assumption) ?r5
  case h5 => (intro w hSw; (try dsimp only at hSw); go_simp; try with_reducible rfl)
  try simp only [Act.put, List.setIfInBounds_toArray, List.set_cons_zero, List.set_cons_succ]
  refine wpAnyH_take (i := 4) (oi := { dst := some 25, op := Go.Op.field 161 (Go.Operand.tmp 24) 0, type := 119, pos := "prog.go:130", after := #[{ on := 3, ground := Go.Ground.data }], guard := none }) (v := ?v6) rfl (by kernel_rfl) (by kernel_rfl) (by kernel_rfl) (fun _ _ _ h => h) (Or.inl ⟨by kernel_rfl, ?h6⟩) (by assumption) ?r6
  case h6 => (intro w hSw; (try dsimp only at hSw); go_simp; try with_reducible rfl)
  try simp only [Act.put, List.setIfInBounds_toArray, List.set_cons_zero, List.set_cons_succ]
  refine wpAnyH_ready (rs := [7]) (by kernel_rfl) (by simp) ?_
  refine AllReadyH.cons (o := { dst := some 28, op := Go.Op.call { callee := Go.Callee.value (Go.Operand.tmp 25), args := #[Go.Operand.tmp 26, Go.Operand.tmp 27], argTypes := #[73, 3] }, type := 4, pos := "prog.go:130", after := #[{ on := 4, ground := Go.Ground.data }, { on := 5, ground := Go.Ground.data }, { on := 6, ground := Go.Ground.data }, { on := 0, ground := Go.Ground.chain }], guard := none }) rfl (fun K hK => ?_) AllReadyH.nil
  go_simp
  refine (hq'.out _).mono ?_
  rintro e u7 ⟨rfl, b7⟩
  have hx7 := hHeld.trans (b7.mono hHeld.size)
  go_simp
  refine hK.out _ _ (hx7) (fun hHeld => ?_)
  clear hK K
  try simp only [Act.put, List.setIfInBounds_toArray, List.set_cons_zero, List.set_cons_succ]
  refine wpAnyH_take (i := 8) (oi := { dst := some 4, op := Go.Op.assign (Go.Operand.tmp 28), type := 4, pos := "prog.go:130", after := #[{ on := 7, ground := Go.Ground.data }, { on := 7, ground := Go.Ground.chain }, { on := 0, ground := Go.Ground.phase }, { on := 1, ground := Go.Ground.phase }, { on := 2, ground := Go.Ground.phase }, { on := 3, ground := Go.Ground.phase }, { on := 4, ground := Go.Ground.phase }, { on := 5, ground := Go.Ground.phase }, { on := 6, ground := Go.Ground.phase }, { on := 7, ground := Go.Ground.phase }], guard := none }) (v := ?v7) rfl (by kernel_rfl) (by kernel_rfl) (by kernel_rfl) (fun _ _ _ h => h) (Or.inl ⟨by kernel_rfl, ?h7⟩) (by assumption) ?r7
  case h7 => (intro w hSw; (try dsimp only at hSw); go_simp; try with_reducible rfl)
  try simp only [Act.put, List.setIfInBounds_toArray, List.set_cons_zero, List.set_cons_succ]
  refine wpAnyH_done (by kernel_rfl) ?_ _
  have hx := Lib.hid hHeld
  go_wp2
  go_ret
  exact ⟨rfl, hB'.out.trans (hx.out.mono hB'.out.size)⟩
set_option maxRecDepth 100000 in
theorem right_2 (x y c d n : Int) (b : Bool) (hn0 : 0 ≤ n) (hn8 : n ≤ 8)
    (hq : ∀ W, Calls Tryz.prog 176 #[.agg #[.int .i64 2, .int .i64 x, .int .i64 y, .int .i64 c, .int .i64 d], .int .i64 n] W (Gives (.bool b) W)) (w : World) :
    Calls Tryz.prog 136 #[.agg #[.int .i64 2, .int .i64 x, .int .i64 y, .int .i64 c, .int .i64 d], .int .i64 n] w (Gives (.bool b) w) := by
  obtain ⟨W1, hW1⟩ : ∃ W1, W1 = w.alloc (.cells #[.int .i64 2, .int .i64 x, .int .i64 y, .int .i64 c, .int .i64 d] 73) := ⟨_, rfl⟩
  have hB : Below w.heap.size w W1 := by rw [hW1]; exact (Below.refl _ _).alloc (Nat.le_refl _) _
  have hH : Holds W1 w.heap.size 73 #[.int .i64 2, .int .i64 x, .int .i64 y, .int .i64 c, .int .i64 d] := by rw [hW1]; exact Holds.new _ _ _
  have hW1' := Lib.hid hW1
  have k0 := hH.cell 0
  have hB' := Lib.hid hB
  have hH' := Lib.hid hH
  have hq' := Lib.hid hq
  have hix : ∀ W, (Instr.index 162 (.agg kindsA) (.int .i64 2)).run Tryz.prog W = .ok (.agg #[.func (.func 176) #[] #[], .func (.func 177) #[] #[]]) W := fun W => by kernel_rfl
  have hfd : ∀ W, (Instr.field 161 (.agg #[.func (.func 176) #[] #[], .func (.func 177) #[] #[]]) 0).run Tryz.prog W = .ok (.func (.func 176) #[] #[]) W := fun W => by kernel_rfl
  have hn1 : ¬ n < 0 := by omega
  have hn2 : ¬ 8 < n := by omega
  clear hB hH hW1 hq hn0 hn8
  go_enter Tryz.func136, Tryz.ntmps136
  go_wp2
  rw [← hW1'.out]
  have hc0 : ∀ W, Below W1.heap.size W1 W → W.cell? ⟨w.heap.size, 0, none⟩ = some (.int .i64 2) := fun W hW => (hH'.out.below hW hH'.out.lt).cell 0
  have hc1 : ∀ W, Below W1.heap.size W1 W → W.cell? ⟨w.heap.size, 1, none⟩ = some (.int .i64 x) := fun W hW => (hH'.out.below hW hH'.out.lt).cell 1
  have hc2 : ∀ W, Below W1.heap.size W1 W → W.cell? ⟨w.heap.size, 2, none⟩ = some (.int .i64 y) := fun W hW => (hH'.out.below hW hH'.out.lt).cell 2
  have hc3 : ∀ W, Below W1.heap.size W1 W → W.cell? ⟨w.heap.size, 3, none⟩ = some (.int .i64 c) := fun W hW => (hH'.out.below hW hH'.out.lt).cell 3
  have hc4 : ∀ W, Below W1.heap.size W1 W → W.cell? ⟨w.heap.size, 4, none⟩ = some (.int .i64 d) := fun W hW => (hH'.out.below hW hH'.out.lt).cell 4
  clear k0
  refine wp_drawn_on (fun W => Below W1.heap.size W1 W) (by kernel_rfl) ((Below.refl _ _).drew) (fun hHeld => ?_)
  refine wpAnyH_take (i := 1) (oi := { dst := some 22, op := Go.Op.fieldAddr 73 (Go.Operand.tmp 2) 0, type := 0, pos := "prog.go:130", after := #[], guard := none }) (v := ?v8) rfl (by kernel_rfl) (by kernel_rfl) (by kernel_rfl) (fun _ _ _ h => h) (Or.inl ⟨by kernel_rfl, ?h8⟩) (by assumption) ?r8
  case h8 => (intro w hSw; (try dsimp only at hSw); go_simp; try with_reducible rfl)
  try simp only [Act.put, List.setIfInBounds_toArray, List.set_cons_zero, List.set_cons_succ]
  refine wpAnyH_take (i := 2) (oi := { dst := some 23, op := Go.Op.load 3 (Go.Operand.tmp 22), type := 3, pos := "prog.go:130", after := #[{ on := 1, ground := Go.Ground.data }], guard := none }) (v := ?v9) rfl (by kernel_rfl) (by kernel_rfl) (by kernel_rfl) (fun _ _ _ h => h) (Or.inl ⟨by kernel_rfl, ?h9⟩) (by assumption) ?r9
  case h9 => (intro w hSw; (try dsimp only at hSw); go_simp; try with_reducible rfl)
  try simp only [Act.put, List.setIfInBounds_toArray, List.set_cons_zero, List.set_cons_succ]
  refine wpAnyH_take (i := 5) (oi := { dst := some 26, op := Go.Op.load 73 (Go.Operand.tmp 2), type := 73, pos := "prog.go:130", after := #[], guard := none }) (v := ?v10) rfl (by kernel_rfl) (by kernel_rfl) (by kernel_rfl) (fun _ _ _ h => h) (Or.inl ⟨by kernel_rfl, ?h10⟩) (by assumption) ?r10
  case h10 => (intro w hSw; (try dsimp only at hSw); go_simp; try with_reducible rfl)
  try simp only [Act.put, List.setIfInBounds_toArray, List.set_cons_zero, List.set_cons_succ]
  refine wpAnyH_take (i := 6) (oi := { dst := some 27, op := Go.Op.move (Go.Operand.tmp 1), type := 3, pos := "prog.go:130", after := #[], guard := none }) (v := ?v11) rfl (by kernel_rfl) (by kernel_rfl) (by kernel_rfl) (fun _ _ _ h => h) (Or.inl ⟨by kernel_rfl, ?h11⟩) (by assumption) ?r11
  case h11 => (intro w hSw; (try dsimp only at hSw); go_simp; try with_reducible rfl)
  try simp only [Act.put, List.setIfInBounds_toArray, List.set_cons_zero, List.set_cons_succ]
  refine wpAnyH_ready (rs := [0]) (by kernel_rfl) (by simp) ?_
  refine AllReadyH.cons (o := { dst := some 21, op := Go.Op.call { callee := Go.Callee.value (Go.Operand.func 137), args := #[], argTypes := #[] }, type := 162, pos := "prog.go:130", after := #[], guard := none }) rfl (fun K hK => ?_) AllReadyH.nil
  go_simp
  refine (kinds_any _).mono ?_
  rintro e u0 ⟨rfl, b0⟩
  have hx0 := hHeld.trans (b0.mono hHeld.size)
  go_simp
  refine hK.out _ _ (hx0) (fun hHeld => ?_)
  clear hK K
  try simp only [Act.put, List.setIfInBounds_toArray, List.set_cons_zero, List.set_cons_succ]
  refine wpAnyH_take (i := 3) (oi := { dst := some 24, op := Go.Op.index 162 (Go.Operand.tmp 21) (Go.Operand.tmp 23), type := 161, pos := "prog.go:130", after := #[{ on := 0, ground := Go.Ground.data }, { on := 2, ground := Go.Ground.data }], guard := none }) (v := ?v12) rfl (by kernel_rfl) (by kernel_rfl) (by kernel_rfl) (fun _ _ _ h => h) (Or.inl ⟨by kernel_rfl, ?h12⟩) (by assumption) ?r12
  case h12 => (intro w hSw; (try dsimp only at hSw); go_simp; try with_reducible rfl)
  try simp only [Act.put, List.setIfInBounds_toArray, List.set_cons_zero, List.set_cons_succ]
  refine wpAnyH_take (i := 4) (oi := { dst := some 25, op := Go.Op.field 161 (Go.Operand.tmp 24) 0, type := 119, pos := "prog.go:130", after := #[{ on := 3, ground := Go.Ground.data }], guard := none }) (v := ?v13) rfl (by kernel_rfl) (by kernel_rfl) (by kernel_rfl) (fun _ _ _ h => h) (Or.inl ⟨by kernel_rfl, ?h13⟩) (by assumption) ?r13
  case h13 => (intro w hSw; (try dsimp only at hSw); go_simp; try with_reducible rfl)
  try simp only [Act.put, List.setIfInBounds_toArray, List.set_cons_zero, List.set_cons_succ]
  refine wpAnyH_ready (rs := [7]) (by kernel_rfl) (by simp) ?_
  refine AllReadyH.cons (o := { dst := some 28, op := Go.Op.call { callee := Go.Callee.value (Go.Operand.tmp 25), args := #[Go.Operand.tmp 26, Go.Operand.tmp 27], argTypes := #[73, 3] }, type := 4, pos := "prog.go:130", after := #[{ on := 4, ground := Go.Ground.data }, { on := 5, ground := Go.Ground.data }, { on := 6, ground := Go.Ground.data }, { on := 0, ground := Go.Ground.chain }], guard := none }) rfl (fun K hK => ?_) AllReadyH.nil
  go_simp
  refine (hq'.out _).mono ?_
  rintro e u7 ⟨rfl, b7⟩
  have hx7 := hHeld.trans (b7.mono hHeld.size)
  go_simp
  refine hK.out _ _ (hx7) (fun hHeld => ?_)
  clear hK K
  try simp only [Act.put, List.setIfInBounds_toArray, List.set_cons_zero, List.set_cons_succ]
  refine wpAnyH_take (i := 8) (oi := { dst := some 4, op := Go.Op.assign (Go.Operand.tmp 28), type := 4, pos := "prog.go:130", after := #[{ on := 7, ground := Go.Ground.data }, { on := 7, ground := Go.Ground.chain }, { on := 0, ground := Go.Ground.phase }, { on := 1, ground := Go.Ground.phase }, { on := 2, ground := Go.Ground.phase }, { on := 3, ground := Go.Ground.phase }, { on := 4, ground := Go.Ground.phase }, { on := 5, ground := Go.Ground.phase }, { on := 6, ground := Go.Ground.phase }, { on := 7, ground := Go.Ground.phase }], guard := none }) (v := ?v14) rfl (by kernel_rfl) (by kernel_rfl) (by kernel_rfl) (fun _ _ _ h => h) (Or.inl ⟨by kernel_rfl, ?h14⟩) (by assumption) ?r14
  case h14 => (intro w hSw; (try dsimp only at hSw); go_simp; try with_reducible rfl)
  try simp only [Act.put, List.setIfInBounds_toArray, List.set_cons_zero, List.set_cons_succ]
  refine wpAnyH_done (by kernel_rfl) ?_ _
  have hx := Lib.hid hHeld
  go_wp2
  go_ret
  exact ⟨rfl, hB'.out.trans (hx.out.mono hB'.out.size)⟩
set_option maxRecDepth 100000 in
theorem right_3 (x y c d n : Int) (b : Bool) (hn0 : 0 ≤ n) (hn8 : n ≤ 8)
    (hq : ∀ W, Calls Tryz.prog 178 #[.agg #[.int .i64 3, .int .i64 x, .int .i64 y, .int .i64 c, .int .i64 d], .int .i64 n] W (Gives (.bool b) W)) (w : World) :
    Calls Tryz.prog 136 #[.agg #[.int .i64 3, .int .i64 x, .int .i64 y, .int .i64 c, .int .i64 d], .int .i64 n] w (Gives (.bool b) w) := by
  obtain ⟨W1, hW1⟩ : ∃ W1, W1 = w.alloc (.cells #[.int .i64 3, .int .i64 x, .int .i64 y, .int .i64 c, .int .i64 d] 73) := ⟨_, rfl⟩
  have hB : Below w.heap.size w W1 := by rw [hW1]; exact (Below.refl _ _).alloc (Nat.le_refl _) _
  have hH : Holds W1 w.heap.size 73 #[.int .i64 3, .int .i64 x, .int .i64 y, .int .i64 c, .int .i64 d] := by rw [hW1]; exact Holds.new _ _ _
  have hW1' := Lib.hid hW1
  have k0 := hH.cell 0
  have hB' := Lib.hid hB
  have hH' := Lib.hid hH
  have hq' := Lib.hid hq
  have hix : ∀ W, (Instr.index 162 (.agg kindsA) (.int .i64 3)).run Tryz.prog W = .ok (.agg #[.func (.func 178) #[] #[], .func (.func 179) #[] #[]]) W := fun W => by kernel_rfl
  have hfd : ∀ W, (Instr.field 161 (.agg #[.func (.func 178) #[] #[], .func (.func 179) #[] #[]]) 0).run Tryz.prog W = .ok (.func (.func 178) #[] #[]) W := fun W => by kernel_rfl
  have hn1 : ¬ n < 0 := by omega
  have hn2 : ¬ 8 < n := by omega
  clear hB hH hW1 hq hn0 hn8
  go_enter Tryz.func136, Tryz.ntmps136
  go_wp2
  rw [← hW1'.out]
  have hc0 : ∀ W, Below W1.heap.size W1 W → W.cell? ⟨w.heap.size, 0, none⟩ = some (.int .i64 3) := fun W hW => (hH'.out.below hW hH'.out.lt).cell 0
  have hc1 : ∀ W, Below W1.heap.size W1 W → W.cell? ⟨w.heap.size, 1, none⟩ = some (.int .i64 x) := fun W hW => (hH'.out.below hW hH'.out.lt).cell 1
  have hc2 : ∀ W, Below W1.heap.size W1 W → W.cell? ⟨w.heap.size, 2, none⟩ = some (.int .i64 y) := fun W hW => (hH'.out.below hW hH'.out.lt).cell 2
  have hc3 : ∀ W, Below W1.heap.size W1 W → W.cell? ⟨w.heap.size, 3, none⟩ = some (.int .i64 c) := fun W hW => (hH'.out.below hW hH'.out.lt).cell 3
  have hc4 : ∀ W, Below W1.heap.size W1 W → W.cell? ⟨w.heap.size, 4, none⟩ = some (.int .i64 d) := fun W hW => (hH'.out.below hW hH'.out.lt).cell 4
  clear k0
  refine wp_drawn_on (fun W => Below W1.heap.size W1 W) (by kernel_rfl) ((Below.refl _ _).drew) (fun hHeld => ?_)
  refine wpAnyH_take (i := 1) (oi := { dst := some 22, op := Go.Op.fieldAddr 73 (Go.Operand.tmp 2) 0, type := 0, pos := "prog.go:130", after := #[], guard := none }) (v := ?v15) rfl (by kernel_rfl) (by kernel_rfl) (by kernel_rfl) (fun _ _ _ h => h) (Or.inl ⟨by kernel_rfl, ?h15⟩) (by assumption) ?r15
  case h15 => (intro w hSw; (try dsimp only at hSw); go_simp; try with_reducible rfl)
  try simp only [Act.put, List.setIfInBounds_toArray, List.set_cons_zero, List.set_cons_succ]
  refine wpAnyH_take (i := 2) (oi := { dst := some 23, op := Go.Op.load 3 (Go.Operand.tmp 22), type := 3, pos := "prog.go:130", after := #[{ on := 1, ground := Go.Ground.data }], guard := none }) (v := ?v16) rfl (by kernel_rfl) (by kernel_rfl) (by kernel_rfl) (fun _ _ _ h => h) (Or.inl ⟨by kernel_rfl, ?h16⟩) (by assumption) ?r16
  case h16 => (intro w hSw; (try dsimp only at hSw); go_simp; try with_reducible rfl)
  try simp only [Act.put, List.setIfInBounds_toArray, List.set_cons_zero, List.set_cons_succ]
  refine wpAnyH_take (i := 5) (oi := { dst := some 26, op := Go.Op.load 73 (Go.Operand.tmp 2), type := 73, pos := "prog.go:130", after := #[], guard := none }) (v := ?v17) rfl (by kernel_rfl) (by kernel_rfl) (by kernel_rfl) (fun _ _ _ h => h) (Or.inl ⟨by kernel_rfl, ?h17⟩) (by assumption) ?r17
  case h17 => (intro w hSw; (try dsimp only at hSw); go_simp; try with_reducible rfl)
  try simp only [Act.put, List.setIfInBounds_toArray, List.set_cons_zero, List.set_cons_succ]
  refine wpAnyH_take (i := 6) (oi := { dst := some 27, op := Go.Op.move (Go.Operand.tmp 1), type := 3, pos := "prog.go:130", after := #[], guard := none }) (v := ?v18) rfl (by kernel_rfl) (by kernel_rfl) (by kernel_rfl) (fun _ _ _ h => h) (Or.inl ⟨by kernel_rfl, ?h18⟩) (by assumption) ?r18
  case h18 => (intro w hSw; (try dsimp only at hSw); go_simp; try with_reducible rfl)
  try simp only [Act.put, List.setIfInBounds_toArray, List.set_cons_zero, List.set_cons_succ]
  refine wpAnyH_ready (rs := [0]) (by kernel_rfl) (by simp) ?_
  refine AllReadyH.cons (o := { dst := some 21, op := Go.Op.call { callee := Go.Callee.value (Go.Operand.func 137), args := #[], argTypes := #[] }, type := 162, pos := "prog.go:130", after := #[], guard := none }) rfl (fun K hK => ?_) AllReadyH.nil
  go_simp
  refine (kinds_any _).mono ?_
  rintro e u0 ⟨rfl, b0⟩
  have hx0 := hHeld.trans (b0.mono hHeld.size)
  go_simp
  refine hK.out _ _ (hx0) (fun hHeld => ?_)
  clear hK K
  try simp only [Act.put, List.setIfInBounds_toArray, List.set_cons_zero, List.set_cons_succ]
  refine wpAnyH_take (i := 3) (oi := { dst := some 24, op := Go.Op.index 162 (Go.Operand.tmp 21) (Go.Operand.tmp 23), type := 161, pos := "prog.go:130", after := #[{ on := 0, ground := Go.Ground.data }, { on := 2, ground := Go.Ground.data }], guard := none }) (v := ?v19) rfl (by kernel_rfl) (by kernel_rfl) (by kernel_rfl) (fun _ _ _ h => h) (Or.inl ⟨by kernel_rfl, ?h19⟩) (by assumption) ?r19
  case h19 => (intro w hSw; (try dsimp only at hSw); go_simp; try with_reducible rfl)
  try simp only [Act.put, List.setIfInBounds_toArray, List.set_cons_zero, List.set_cons_succ]
  refine wpAnyH_take (i := 4) (oi := { dst := some 25, op := Go.Op.field 161 (Go.Operand.tmp 24) 0, type := 119, pos := "prog.go:130", after := #[{ on := 3, ground := Go.Ground.data }], guard := none }) (v := ?v20) rfl (by kernel_rfl) (by kernel_rfl) (by kernel_rfl) (fun _ _ _ h => h) (Or.inl ⟨by kernel_rfl, ?h20⟩) (by assumption) ?r20
  case h20 => (intro w hSw; (try dsimp only at hSw); go_simp; try with_reducible rfl)
  try simp only [Act.put, List.setIfInBounds_toArray, List.set_cons_zero, List.set_cons_succ]
  refine wpAnyH_ready (rs := [7]) (by kernel_rfl) (by simp) ?_
  refine AllReadyH.cons (o := { dst := some 28, op := Go.Op.call { callee := Go.Callee.value (Go.Operand.tmp 25), args := #[Go.Operand.tmp 26, Go.Operand.tmp 27], argTypes := #[73, 3] }, type := 4, pos := "prog.go:130", after := #[{ on := 4, ground := Go.Ground.data }, { on := 5, ground := Go.Ground.data }, { on := 6, ground := Go.Ground.data }, { on := 0, ground := Go.Ground.chain }], guard := none }) rfl (fun K hK => ?_) AllReadyH.nil
  go_simp
  refine (hq'.out _).mono ?_
  rintro e u7 ⟨rfl, b7⟩
  have hx7 := hHeld.trans (b7.mono hHeld.size)
  go_simp
  refine hK.out _ _ (hx7) (fun hHeld => ?_)
  clear hK K
  try simp only [Act.put, List.setIfInBounds_toArray, List.set_cons_zero, List.set_cons_succ]
  refine wpAnyH_take (i := 8) (oi := { dst := some 4, op := Go.Op.assign (Go.Operand.tmp 28), type := 4, pos := "prog.go:130", after := #[{ on := 7, ground := Go.Ground.data }, { on := 7, ground := Go.Ground.chain }, { on := 0, ground := Go.Ground.phase }, { on := 1, ground := Go.Ground.phase }, { on := 2, ground := Go.Ground.phase }, { on := 3, ground := Go.Ground.phase }, { on := 4, ground := Go.Ground.phase }, { on := 5, ground := Go.Ground.phase }, { on := 6, ground := Go.Ground.phase }, { on := 7, ground := Go.Ground.phase }], guard := none }) (v := ?v21) rfl (by kernel_rfl) (by kernel_rfl) (by kernel_rfl) (fun _ _ _ h => h) (Or.inl ⟨by kernel_rfl, ?h21⟩) (by assumption) ?r21
  case h21 => (intro w hSw; (try dsimp only at hSw); go_simp; try with_reducible rfl)
  try simp only [Act.put, List.setIfInBounds_toArray, List.set_cons_zero, List.set_cons_succ]
  refine wpAnyH_done (by kernel_rfl) ?_ _
  have hx := Lib.hid hHeld
  go_wp2
  go_ret
  exact ⟨rfl, hB'.out.trans (hx.out.mono hB'.out.size)⟩
set_option maxRecDepth 100000 in
theorem right_4 (x y c d n : Int) (b : Bool) (hn0 : 0 ≤ n) (hn8 : n ≤ 8)
    (hq : ∀ W, Calls Tryz.prog 180 #[.agg #[.int .i64 4, .int .i64 x, .int .i64 y, .int .i64 c, .int .i64 d], .int .i64 n] W (Gives (.bool b) W)) (w : World) :
    Calls Tryz.prog 136 #[.agg #[.int .i64 4, .int .i64 x, .int .i64 y, .int .i64 c, .int .i64 d], .int .i64 n] w (Gives (.bool b) w) := by
  obtain ⟨W1, hW1⟩ : ∃ W1, W1 = w.alloc (.cells #[.int .i64 4, .int .i64 x, .int .i64 y, .int .i64 c, .int .i64 d] 73) := ⟨_, rfl⟩
  have hB : Below w.heap.size w W1 := by rw [hW1]; exact (Below.refl _ _).alloc (Nat.le_refl _) _
  have hH : Holds W1 w.heap.size 73 #[.int .i64 4, .int .i64 x, .int .i64 y, .int .i64 c, .int .i64 d] := by rw [hW1]; exact Holds.new _ _ _
  have hW1' := Lib.hid hW1
  have k0 := hH.cell 0
  have hB' := Lib.hid hB
  have hH' := Lib.hid hH
  have hq' := Lib.hid hq
  have hix : ∀ W, (Instr.index 162 (.agg kindsA) (.int .i64 4)).run Tryz.prog W = .ok (.agg #[.func (.func 180) #[] #[], .func (.func 181) #[] #[]]) W := fun W => by kernel_rfl
  have hfd : ∀ W, (Instr.field 161 (.agg #[.func (.func 180) #[] #[], .func (.func 181) #[] #[]]) 0).run Tryz.prog W = .ok (.func (.func 180) #[] #[]) W := fun W => by kernel_rfl
  have hn1 : ¬ n < 0 := by omega
  have hn2 : ¬ 8 < n := by omega
  clear hB hH hW1 hq hn0 hn8
  go_enter Tryz.func136, Tryz.ntmps136
  go_wp2
  rw [← hW1'.out]
  have hc0 : ∀ W, Below W1.heap.size W1 W → W.cell? ⟨w.heap.size, 0, none⟩ = some (.int .i64 4) := fun W hW => (hH'.out.below hW hH'.out.lt).cell 0
  have hc1 : ∀ W, Below W1.heap.size W1 W → W.cell? ⟨w.heap.size, 1, none⟩ = some (.int .i64 x) := fun W hW => (hH'.out.below hW hH'.out.lt).cell 1
  have hc2 : ∀ W, Below W1.heap.size W1 W → W.cell? ⟨w.heap.size, 2, none⟩ = some (.int .i64 y) := fun W hW => (hH'.out.below hW hH'.out.lt).cell 2
  have hc3 : ∀ W, Below W1.heap.size W1 W → W.cell? ⟨w.heap.size, 3, none⟩ = some (.int .i64 c) := fun W hW => (hH'.out.below hW hH'.out.lt).cell 3
  have hc4 : ∀ W, Below W1.heap.size W1 W → W.cell? ⟨w.heap.size, 4, none⟩ = some (.int .i64 d) := fun W hW => (hH'.out.below hW hH'.out.lt).cell 4
  clear k0
  refine wp_drawn_on (fun W => Below W1.heap.size W1 W) (by kernel_rfl) ((Below.refl _ _).drew) (fun hHeld => ?_)
  refine wpAnyH_take (i := 1) (oi := { dst := some 22, op := Go.Op.fieldAddr 73 (Go.Operand.tmp 2) 0, type := 0, pos := "prog.go:130", after := #[], guard := none }) (v := ?v22) rfl (by kernel_rfl) (by kernel_rfl) (by kernel_rfl) (fun _ _ _ h => h) (Or.inl ⟨by kernel_rfl, ?h22⟩) (by assumption) ?r22
  case h22 => (intro w hSw; (try dsimp only at hSw); go_simp; try with_reducible rfl)
  try simp only [Act.put, List.setIfInBounds_toArray, List.set_cons_zero, List.set_cons_succ]
  refine wpAnyH_take (i := 2) (oi := { dst := some 23, op := Go.Op.load 3 (Go.Operand.tmp 22), type := 3, pos := "prog.go:130", after := #[{ on := 1, ground := Go.Ground.data }], guard := none }) (v := ?v23) rfl (by kernel_rfl) (by kernel_rfl) (by kernel_rfl) (fun _ _ _ h => h) (Or.inl ⟨by kernel_rfl, ?h23⟩) (by assumption) ?r23
  case h23 => (intro w hSw; (try dsimp only at hSw); go_simp; try with_reducible rfl)
  try simp only [Act.put, List.setIfInBounds_toArray, List.set_cons_zero, List.set_cons_succ]
  refine wpAnyH_take (i := 5) (oi := { dst := some 26, op := Go.Op.load 73 (Go.Operand.tmp 2), type := 73, pos := "prog.go:130", after := #[], guard := none }) (v := ?v24) rfl (by kernel_rfl) (by kernel_rfl) (by kernel_rfl) (fun _ _ _ h => h) (Or.inl ⟨by kernel_rfl, ?h24⟩) (by assumption) ?r24
  case h24 => (intro w hSw; (try dsimp only at hSw); go_simp; try with_reducible rfl)
  try simp only [Act.put, List.setIfInBounds_toArray, List.set_cons_zero, List.set_cons_succ]
  refine wpAnyH_take (i := 6) (oi := { dst := some 27, op := Go.Op.move (Go.Operand.tmp 1), type := 3, pos := "prog.go:130", after := #[], guard := none }) (v := ?v25) rfl (by kernel_rfl) (by kernel_rfl) (by kernel_rfl) (fun _ _ _ h => h) (Or.inl ⟨by kernel_rfl, ?h25⟩) (by assumption) ?r25
  case h25 => (intro w hSw; (try dsimp only at hSw); go_simp; try with_reducible rfl)
  try simp only [Act.put, List.setIfInBounds_toArray, List.set_cons_zero, List.set_cons_succ]
  refine wpAnyH_ready (rs := [0]) (by kernel_rfl) (by simp) ?_
  refine AllReadyH.cons (o := { dst := some 21, op := Go.Op.call { callee := Go.Callee.value (Go.Operand.func 137), args := #[], argTypes := #[] }, type := 162, pos := "prog.go:130", after := #[], guard := none }) rfl (fun K hK => ?_) AllReadyH.nil
  go_simp
  refine (kinds_any _).mono ?_
  rintro e u0 ⟨rfl, b0⟩
  have hx0 := hHeld.trans (b0.mono hHeld.size)
  go_simp
  refine hK.out _ _ (hx0) (fun hHeld => ?_)
  clear hK K
  try simp only [Act.put, List.setIfInBounds_toArray, List.set_cons_zero, List.set_cons_succ]
  refine wpAnyH_take (i := 3) (oi := { dst := some 24, op := Go.Op.index 162 (Go.Operand.tmp 21) (Go.Operand.tmp 23), type := 161, pos := "prog.go:130", after := #[{ on := 0, ground := Go.Ground.data }, { on := 2, ground := Go.Ground.data }], guard := none }) (v := ?v26) rfl (by kernel_rfl) (by kernel_rfl) (by kernel_rfl) (fun _ _ _ h => h) (Or.inl ⟨by kernel_rfl, ?h26⟩) (by assumption) ?r26
  case h26 => (intro w hSw; (try dsimp only at hSw); go_simp; try with_reducible rfl)
  try simp only [Act.put, List.setIfInBounds_toArray, List.set_cons_zero, List.set_cons_succ]
  refine wpAnyH_take (i := 4) (oi := { dst := some 25, op := Go.Op.field 161 (Go.Operand.tmp 24) 0, type := 119, pos := "prog.go:130", after := #[{ on := 3, ground := Go.Ground.data }], guard := none }) (v := ?v27) rfl (by kernel_rfl) (by kernel_rfl) (by kernel_rfl) (fun _ _ _ h => h) (Or.inl ⟨by kernel_rfl, ?h27⟩) (by assumption) ?r27
  case h27 => (intro w hSw; (try dsimp only at hSw); go_simp; try with_reducible rfl)
  try simp only [Act.put, List.setIfInBounds_toArray, List.set_cons_zero, List.set_cons_succ]
  refine wpAnyH_ready (rs := [7]) (by kernel_rfl) (by simp) ?_
  refine AllReadyH.cons (o := { dst := some 28, op := Go.Op.call { callee := Go.Callee.value (Go.Operand.tmp 25), args := #[Go.Operand.tmp 26, Go.Operand.tmp 27], argTypes := #[73, 3] }, type := 4, pos := "prog.go:130", after := #[{ on := 4, ground := Go.Ground.data }, { on := 5, ground := Go.Ground.data }, { on := 6, ground := Go.Ground.data }, { on := 0, ground := Go.Ground.chain }], guard := none }) rfl (fun K hK => ?_) AllReadyH.nil
  go_simp
  refine (hq'.out _).mono ?_
  rintro e u7 ⟨rfl, b7⟩
  have hx7 := hHeld.trans (b7.mono hHeld.size)
  go_simp
  refine hK.out _ _ (hx7) (fun hHeld => ?_)
  clear hK K
  try simp only [Act.put, List.setIfInBounds_toArray, List.set_cons_zero, List.set_cons_succ]
  refine wpAnyH_take (i := 8) (oi := { dst := some 4, op := Go.Op.assign (Go.Operand.tmp 28), type := 4, pos := "prog.go:130", after := #[{ on := 7, ground := Go.Ground.data }, { on := 7, ground := Go.Ground.chain }, { on := 0, ground := Go.Ground.phase }, { on := 1, ground := Go.Ground.phase }, { on := 2, ground := Go.Ground.phase }, { on := 3, ground := Go.Ground.phase }, { on := 4, ground := Go.Ground.phase }, { on := 5, ground := Go.Ground.phase }, { on := 6, ground := Go.Ground.phase }, { on := 7, ground := Go.Ground.phase }], guard := none }) (v := ?v28) rfl (by kernel_rfl) (by kernel_rfl) (by kernel_rfl) (fun _ _ _ h => h) (Or.inl ⟨by kernel_rfl, ?h28⟩) (by assumption) ?r28
  case h28 => (intro w hSw; (try dsimp only at hSw); go_simp; try with_reducible rfl)
  try simp only [Act.put, List.setIfInBounds_toArray, List.set_cons_zero, List.set_cons_succ]
  refine wpAnyH_done (by kernel_rfl) ?_ _
  have hx := Lib.hid hHeld
  go_wp2
  go_ret
  exact ⟨rfl, hB'.out.trans (hx.out.mono hB'.out.size)⟩
set_option maxRecDepth 100000 in
theorem right_5 (x y c d n : Int) (b : Bool) (hn0 : 0 ≤ n) (hn8 : n ≤ 8)
    (hq : ∀ W, Calls Tryz.prog 180 #[.agg #[.int .i64 5, .int .i64 x, .int .i64 y, .int .i64 c, .int .i64 d], .int .i64 n] W (Gives (.bool b) W)) (w : World) :
    Calls Tryz.prog 136 #[.agg #[.int .i64 5, .int .i64 x, .int .i64 y, .int .i64 c, .int .i64 d], .int .i64 n] w (Gives (.bool b) w) := by
  obtain ⟨W1, hW1⟩ : ∃ W1, W1 = w.alloc (.cells #[.int .i64 5, .int .i64 x, .int .i64 y, .int .i64 c, .int .i64 d] 73) := ⟨_, rfl⟩
  have hB : Below w.heap.size w W1 := by rw [hW1]; exact (Below.refl _ _).alloc (Nat.le_refl _) _
  have hH : Holds W1 w.heap.size 73 #[.int .i64 5, .int .i64 x, .int .i64 y, .int .i64 c, .int .i64 d] := by rw [hW1]; exact Holds.new _ _ _
  have hW1' := Lib.hid hW1
  have k0 := hH.cell 0
  have hB' := Lib.hid hB
  have hH' := Lib.hid hH
  have hq' := Lib.hid hq
  have hix : ∀ W, (Instr.index 162 (.agg kindsA) (.int .i64 5)).run Tryz.prog W = .ok (.agg #[.func (.func 180) #[] #[], .func (.func 182) #[] #[]]) W := fun W => by kernel_rfl
  have hfd : ∀ W, (Instr.field 161 (.agg #[.func (.func 180) #[] #[], .func (.func 182) #[] #[]]) 0).run Tryz.prog W = .ok (.func (.func 180) #[] #[]) W := fun W => by kernel_rfl
  have hn1 : ¬ n < 0 := by omega
  have hn2 : ¬ 8 < n := by omega
  clear hB hH hW1 hq hn0 hn8
  go_enter Tryz.func136, Tryz.ntmps136
  go_wp2
  rw [← hW1'.out]
  have hc0 : ∀ W, Below W1.heap.size W1 W → W.cell? ⟨w.heap.size, 0, none⟩ = some (.int .i64 5) := fun W hW => (hH'.out.below hW hH'.out.lt).cell 0
  have hc1 : ∀ W, Below W1.heap.size W1 W → W.cell? ⟨w.heap.size, 1, none⟩ = some (.int .i64 x) := fun W hW => (hH'.out.below hW hH'.out.lt).cell 1
  have hc2 : ∀ W, Below W1.heap.size W1 W → W.cell? ⟨w.heap.size, 2, none⟩ = some (.int .i64 y) := fun W hW => (hH'.out.below hW hH'.out.lt).cell 2
  have hc3 : ∀ W, Below W1.heap.size W1 W → W.cell? ⟨w.heap.size, 3, none⟩ = some (.int .i64 c) := fun W hW => (hH'.out.below hW hH'.out.lt).cell 3
  have hc4 : ∀ W, Below W1.heap.size W1 W → W.cell? ⟨w.heap.size, 4, none⟩ = some (.int .i64 d) := fun W hW => (hH'.out.below hW hH'.out.lt).cell 4
  clear k0
  refine wp_drawn_on (fun W => Below W1.heap.size W1 W) (by kernel_rfl) ((Below.refl _ _).drew) (fun hHeld => ?_)
  refine wpAnyH_take (i := 1) (oi := { dst := some 22, op := Go.Op.fieldAddr 73 (Go.Operand.tmp 2) 0, type := 0, pos := "prog.go:130", after := #[], guard := none }) (v := ?v29) rfl (by kernel_rfl) (by kernel_rfl) (by kernel_rfl) (fun _ _ _ h => h) (Or.inl ⟨by kernel_rfl, ?h29⟩) (by assumption) ?r29
  case h29 => (intro w hSw; (try dsimp only at hSw); go_simp; try with_reducible rfl)
  try simp only [Act.put, List.setIfInBounds_toArray, List.set_cons_zero, List.set_cons_succ]
  refine wpAnyH_take (i := 2) (oi := { dst := some 23, op := Go.Op.load 3 (Go.Operand.tmp 22), type := 3, pos := "prog.go:130", after := #[{ on := 1, ground := Go.Ground.data }], guard := none }) (v := ?v30) rfl (by kernel_rfl) (by kernel_rfl) (by kernel_rfl) (fun _ _ _ h => h) (Or.inl ⟨by kernel_rfl, ?h30⟩) (by assumption) ?r30
  case h30 => (intro w hSw; (try dsimp only at hSw); go_simp; try with_reducible rfl)
  try simp only [Act.put, List.setIfInBounds_toArray, List.set_cons_zero, List.set_cons_succ]
  refine wpAnyH_take (i := 5) (oi := { dst := some 26, op := Go.Op.load 73 (Go.Operand.tmp 2), type := 73, pos := "prog.go:130", after := #[], guard := none }) (v := ?v31) rfl (by kernel_rfl) (by kernel_rfl) (by kernel_rfl) (fun _ _ _ h => h) (Or.inl ⟨by kernel_rfl, ?h31⟩) (by assumption) ?r31
  case h31 => (intro w hSw; (try dsimp only at hSw); go_simp; try with_reducible rfl)
  try simp only [Act.put, List.setIfInBounds_toArray, List.set_cons_zero, List.set_cons_succ]
  refine wpAnyH_take (i := 6) (oi := { dst := some 27, op := Go.Op.move (Go.Operand.tmp 1), type := 3, pos := "prog.go:130", after := #[], guard := none }) (v := ?v32) rfl (by kernel_rfl) (by kernel_rfl) (by kernel_rfl) (fun _ _ _ h => h) (Or.inl ⟨by kernel_rfl, ?h32⟩) (by assumption) ?r32
  case h32 => (intro w hSw; (try dsimp only at hSw); go_simp; try with_reducible rfl)
  try simp only [Act.put, List.setIfInBounds_toArray, List.set_cons_zero, List.set_cons_succ]
  refine wpAnyH_ready (rs := [0]) (by kernel_rfl) (by simp) ?_
  refine AllReadyH.cons (o := { dst := some 21, op := Go.Op.call { callee := Go.Callee.value (Go.Operand.func 137), args := #[], argTypes := #[] }, type := 162, pos := "prog.go:130", after := #[], guard := none }) rfl (fun K hK => ?_) AllReadyH.nil
  go_simp
  refine (kinds_any _).mono ?_
  rintro e u0 ⟨rfl, b0⟩
  have hx0 := hHeld.trans (b0.mono hHeld.size)
  go_simp
  refine hK.out _ _ (hx0) (fun hHeld => ?_)
  clear hK K
  try simp only [Act.put, List.setIfInBounds_toArray, List.set_cons_zero, List.set_cons_succ]
  refine wpAnyH_take (i := 3) (oi := { dst := some 24, op := Go.Op.index 162 (Go.Operand.tmp 21) (Go.Operand.tmp 23), type := 161, pos := "prog.go:130", after := #[{ on := 0, ground := Go.Ground.data }, { on := 2, ground := Go.Ground.data }], guard := none }) (v := ?v33) rfl (by kernel_rfl) (by kernel_rfl) (by kernel_rfl) (fun _ _ _ h => h) (Or.inl ⟨by kernel_rfl, ?h33⟩) (by assumption) ?r33
  case h33 => (intro w hSw; (try dsimp only at hSw); go_simp; try with_reducible rfl)
  try simp only [Act.put, List.setIfInBounds_toArray, List.set_cons_zero, List.set_cons_succ]
  refine wpAnyH_take (i := 4) (oi := { dst := some 25, op := Go.Op.field 161 (Go.Operand.tmp 24) 0, type := 119, pos := "prog.go:130", after := #[{ on := 3, ground := Go.Ground.data }], guard := none }) (v := ?v34) rfl (by kernel_rfl) (by kernel_rfl) (by kernel_rfl) (fun _ _ _ h => h) (Or.inl ⟨by kernel_rfl, ?h34⟩) (by assumption) ?r34
  case h34 => (intro w hSw; (try dsimp only at hSw); go_simp; try with_reducible rfl)
  try simp only [Act.put, List.setIfInBounds_toArray, List.set_cons_zero, List.set_cons_succ]
  refine wpAnyH_ready (rs := [7]) (by kernel_rfl) (by simp) ?_
  refine AllReadyH.cons (o := { dst := some 28, op := Go.Op.call { callee := Go.Callee.value (Go.Operand.tmp 25), args := #[Go.Operand.tmp 26, Go.Operand.tmp 27], argTypes := #[73, 3] }, type := 4, pos := "prog.go:130", after := #[{ on := 4, ground := Go.Ground.data }, { on := 5, ground := Go.Ground.data }, { on := 6, ground := Go.Ground.data }, { on := 0, ground := Go.Ground.chain }], guard := none }) rfl (fun K hK => ?_) AllReadyH.nil
  go_simp
  refine (hq'.out _).mono ?_
  rintro e u7 ⟨rfl, b7⟩
  have hx7 := hHeld.trans (b7.mono hHeld.size)
  go_simp
  refine hK.out _ _ (hx7) (fun hHeld => ?_)
  clear hK K
  try simp only [Act.put, List.setIfInBounds_toArray, List.set_cons_zero, List.set_cons_succ]
  refine wpAnyH_take (i := 8) (oi := { dst := some 4, op := Go.Op.assign (Go.Operand.tmp 28), type := 4, pos := "prog.go:130", after := #[{ on := 7, ground := Go.Ground.data }, { on := 7, ground := Go.Ground.chain }, { on := 0, ground := Go.Ground.phase }, { on := 1, ground := Go.Ground.phase }, { on := 2, ground := Go.Ground.phase }, { on := 3, ground := Go.Ground.phase }, { on := 4, ground := Go.Ground.phase }, { on := 5, ground := Go.Ground.phase }, { on := 6, ground := Go.Ground.phase }, { on := 7, ground := Go.Ground.phase }], guard := none }) (v := ?v35) rfl (by kernel_rfl) (by kernel_rfl) (by kernel_rfl) (fun _ _ _ h => h) (Or.inl ⟨by kernel_rfl, ?h35⟩) (by assumption) ?r35
  case h35 => (intro w hSw; (try dsimp only at hSw); go_simp; try with_reducible rfl)
  try simp only [Act.put, List.setIfInBounds_toArray, List.set_cons_zero, List.set_cons_succ]
  refine wpAnyH_done (by kernel_rfl) ?_ _
  have hx := Lib.hid hHeld
  go_wp2
  go_ret
  exact ⟨rfl, hB'.out.trans (hx.out.mono hB'.out.size)⟩
end Go.Proofs.YtimgocfkogebmaaGreatDoor
namespace Go.Proofs.YtimgocfkogebmaaGreatDoor
open Go.RowKit
set_option linter.unusedVariables false
set_option linter.unusedSimpArgs false
def letterI (c : Int) : Bool := decide (97 ≤ c ∧ c ≤ 122 ∨ 65 ≤ c ∧ c ≤ 90 ∨ c = 95)
def moreI (c : Int) : Bool := letterI c || (decide (48 ≤ c ∧ c ≤ 57) || decide (c = 46))
def fileI (c : Int) : Bool := moreI c || (decide (c = 45) || decide (c = 47))
theorem letter_high {c : Int} (h : 128 ≤ c) : letterI c = false := by unfold letterI; rw [decide_eq_false]; omega
theorem more_high {c : Int} (h : 128 ≤ c) : moreI c = false := by unfold moreI; rw [letter_high h, decide_eq_false (by omega), decide_eq_false (by omega)]; rfl
theorem file_high {c : Int} (h : 128 ≤ c) : fileI c = false := by unfold fileI; rw [more_high h, decide_eq_false (by omega), decide_eq_false (by omega)]; rfl
def nsz (s : ByteArray) : Nat := ((codes s).takeWhile moreI).length
theorem takeWhile_stop {p : Int → Bool} : ∀ (l : List Int) (k : Nat), (∀ t, t < k → p (l.getD t 0) = true) → k < l.length → p (l.getD k 0) = false → (l.takeWhile p).length = k
  | [], k, _, hk, _ => by simp at hk
  | x :: l, 0, _, _, h => by simp at h; simp [h]
  | x :: l, k + 1, h0, hk, h => by
    have hx : p x = true := by simpa using h0 0 (by omega)
    have ih := takeWhile_stop l k (fun t ht => by simpa using h0 (t + 1) (by omega)) (by simp at hk; omega) (by simpa using h)
    simp [hx, ih]
theorem takeWhile_whole {p : Int → Bool} : ∀ (l : List Int), (∀ t, t < l.length → p (l.getD t 0) = true) → (l.takeWhile p).length = l.length
  | [], _ => rfl
  | x :: l, h => by
    have hx : p x = true := by simpa using h 0 (by simp)
    have ih := takeWhile_whole l (fun t ht => by simpa using h (t + 1) (by simp; omega))
    simp [hx, ih]
theorem nsz_at {s : ByteArray} {k : Nat} (h0 : ∀ t, t < k → moreI ((codes s).getD t 0) = true) (hk : k < s.size) (h : moreI ((codes s).getD k 0) = false) : nsz s = k :=
  takeWhile_stop _ _ h0 (by rw [codes_length]; exact hk) h
theorem nsz_whole {s : ByteArray} (h0 : ∀ t, t < s.size → moreI ((codes s).getD t 0) = true) : nsz s = s.size := by
  have := takeWhile_whole (p := moreI) (codes s) (by rw [codes_length]; exact h0)
  rw [codes_length] at this
  exact this
theorem nsz_le (s : ByteArray) : nsz s ≤ s.size := by
  have := List.Sublist.length_le (List.takeWhile_sublist (l := codes s) moreI)
  rw [codes_length] at this
  exact this
def begB (s : ByteArray) : Bool := decide (0 < s.size) && letterI ((codes s).getD 0 0)
def nameB (s : ByteArray) : Bool := decide (s.size ≤ 32) && (begB s && decide (nsz s = s.size))
def allF (s : ByteArray) : Bool := (codes s).all fileI
def fileB (s : ByteArray) : Bool := decide (s.size ≤ 64) && (begB s && allF s)
theorem allF_no {s : ByteArray} {k : Nat} (hk : k < s.size) (h : fileI ((codes s).getD k 0) = false) : allF s = false := by
  unfold allF
  rw [List.all_eq_false]
  have hk' : k < (codes s).length := by rw [codes_length]; exact hk
  exact ⟨(codes s).getD k 0, by simp [List.getD, hk'], by rw [h]; simp⟩
theorem allF_yes {s : ByteArray} (h : ∀ t, t < s.size → fileI ((codes s).getD t 0) = true) : allF s = true := by
  unfold allF
  rw [List.all_eq_true]
  intro x hx
  obtain ⟨t, ht, rfl⟩ := List.getElem_of_mem hx
  have := h t (by rw [← codes_length]; exact ht)
  simpa [List.getD, ht] using this
set_option maxRecDepth 100000 in
theorem letter_any (c : Int) (w : World) : Calls Tryz.prog 190 #[.int .i32 c] w (SetTo (.bool (letterI c)) w) := by
  go_enter Tryz.func190, Tryz.ntmps190
  go_wp2
  all_goals
    go_ret
    exact ⟨ret_bool (by unfold letterI; rw [Bool.eq_iff_iff]; simp; omega), rfl⟩
set_option maxRecDepth 100000 in
theorem rletter_any (c : Int) (w : World) : Calls Tryz.prog 70 #[.int .u8 c] w (SetTo (.bool (letterI c)) w) := by
  go_enter Tryz.func70, Tryz.ntmps70
  go_wp2
  all_goals
    go_ret
    exact ⟨ret_bool (by unfold letterI; rw [Bool.eq_iff_iff]; simp; omega), rfl⟩
set_option maxRecDepth 100000 in
theorem nameRune_any (c : Int) (w : World) : Calls Tryz.prog 189 #[.int .i32 c] w (SetTo (.bool (moreI c)) w) := by
  have q := Lib.hid (letter_any c w)
  cases hl : letterI c
  · have hm : Hid (moreI c = (decide (48 ≤ c ∧ c ≤ 57) || decide (c = 46))) := Lib.hid (by unfold moreI; rw [hl]; rfl)
    rw [hl] at q
    clear hl
    generalize moreI c = R at *
    go_enter Tryz.func189, Tryz.ntmps189
    go_wp2_with fail
    refine q.out.mono ?_
    rintro e w1 ⟨rfl, rfl⟩
    go_wp2
    all_goals
      go_ret
      exact ⟨ret_bool (by rw [hm.out, Bool.eq_iff_iff]; simp; omega), rfl⟩
  · have hm : Hid (moreI c = true) := Lib.hid (by unfold moreI; rw [hl]; rfl)
    rw [hl] at q
    clear hl
    generalize moreI c = R at *
    go_enter Tryz.func189, Tryz.ntmps189
    go_wp2_with fail
    refine q.out.mono ?_
    rintro e w1 ⟨rfl, rfl⟩
    go_wp2
    go_ret
    exact ⟨ret_bool hm.out.symm, rfl⟩
set_option maxRecDepth 100000 in
theorem rmore_any (c : Int) (w : World) : Calls Tryz.prog 69 #[.int .u8 c] w (SetTo (.bool (moreI c)) w) := by
  have q := Lib.hid (rletter_any c w)
  cases hl : letterI c
  · have hm : Hid (moreI c = (decide (48 ≤ c ∧ c ≤ 57) || decide (c = 46))) := Lib.hid (by unfold moreI; rw [hl]; rfl)
    rw [hl] at q
    clear hl
    generalize moreI c = R at *
    go_enter Tryz.func69, Tryz.ntmps69
    go_wp2_with fail
    refine q.out.mono ?_
    rintro e w1 ⟨rfl, rfl⟩
    go_wp2
    all_goals
      go_ret
      exact ⟨ret_bool (by rw [hm.out, Bool.eq_iff_iff]; simp; omega), rfl⟩
  · have hm : Hid (moreI c = true) := Lib.hid (by unfold moreI; rw [hl]; rfl)
    rw [hl] at q
    clear hl
    generalize moreI c = R at *
    go_enter Tryz.func69, Tryz.ntmps69
    go_wp2_with fail
    refine q.out.mono ?_
    rintro e w1 ⟨rfl, rfl⟩
    go_wp2
    go_ret
    exact ⟨ret_bool hm.out.symm, rfl⟩
theorem iter_below (w : World) (s : ByteArray) (pos : Nat) : Below w.heap.size w (w.iter s pos) := (Below.refl _ _).alloc (Nat.le_refl _) _
set_option maxRecDepth 100000 in
set_option maxHeartbeats 2000000 in
theorem nameSize_any (s : ByteArray) (hs : s.size ≤ 9223372036854775806) (w : World) : Calls Tryz.prog 149 #[.string s] w (Gives (.int .i64 (nsz s : Nat)) w) := by
  obtain ⟨R, hR'⟩ : ∃ R, R = nsz s := ⟨_, rfl⟩
  have hR := Lib.hid hR'
  rw [← hR']
  clear hR'
  go_enter Tryz.func149, Tryz.ntmps149
  go_wp2
  go_loopw [] (fun wr => ∃ pos : Nat, pos ≤ s.size ∧ wr = w.iter s pos ∧ Hid (∀ t, t < pos → moreI ((codes s).getD t 0) = true)) (fun wr => s.size - wr.iterPos w.heap.size)
  case atStart => exact ⟨0, Nat.zero_le _, rfl, Lib.hid (fun t ht => by omega)⟩
  case round =>
    obtain ⟨pos, hpos, rfl, hal⟩ := hrel
    by_cases hp : pos < s.size
    · have hat := codes_at s pos hp
      by_cases ha : (s[pos]'hp).toNat < 128
      · have hnx : ∀ ty, (Instr.next (.pointer (some ⟨w.heap.size, 0, none⟩)) true ty).run Tryz.prog (w.iter s pos) = _ := fun ty => run_next_ascii w s pos ty hp ha
        rw [← hat] at hnx
        have hst := Lib.hid (fun (h : moreI ((codes s).getD pos 0) = false) => nsz_at hal.out hp h)
        generalize hc : (codes s).getD pos 0 = c at *
        have q := Lib.hid (nameRune_any c)
        cases hm : moreI c
        · have hf := Lib.hid (hst.out hm)
          rw [hm] at q
          clear hat hst hc ha
          go_wp2_with fail
          refine (q.out _).mono ?_
          rintro e w1 ⟨rfl, rfl⟩
          go_wp2
          go_ret
          exact ⟨ret_int (by rw [hR.out, hf.out]), iter_below _ _ _⟩
        · have hn : Hid (∀ t, t < pos + 1 → moreI ((codes s).getD t 0) = true) := Lib.hid (fun t ht => by
            by_cases e : t = pos
            · rw [e, hc]; exact hm
            · exact hal.out t (by omega))
          rw [hm] at q
          clear hat hst hc ha hal
          go_wp2_with fail
          refine (q.out _).mono ?_
          rintro e w1 ⟨rfl, rfl⟩
          go_wp2
          go_roundw
          case rel => exact ⟨pos + 1, by omega, rfl, hn⟩
          case measure => simp; omega
      · have hnx : ∀ ty, (Instr.next (.pointer (some ⟨w.heap.size, 0, none⟩)) true ty).run Tryz.prog (w.iter s pos) = _ := fun ty => run_next_any w s pos ty hp
        have hd := (decode_high s pos hp (by omega)).1
        have hf := Lib.hid (nsz_at hal.out hp (more_high (by rw [hat]; omega)))
        generalize (Utf8.decode s pos).1 = c at *
        generalize (Utf8.decode s pos).2 = d at *
        have q := Lib.hid (nameRune_any (c : Int))
        rw [more_high (by omega)] at q
        clear hat hd ha
        go_wp2_with fail
        refine (q.out _).mono ?_
        rintro e w1 ⟨rfl, rfl⟩
        go_wp2
        go_ret
        exact ⟨ret_int (by rw [hR.out, hf.out]), iter_below _ _ _⟩
    · have hnx : ∀ ty, (Instr.next (.pointer (some ⟨w.heap.size, 0, none⟩)) true ty).run Tryz.prog (w.iter s pos) = _ := fun ty => run_next_end w s pos ty hp
      have hf := Lib.hid (nsz_whole (s := s) (fun t ht => hal.out t (by omega)))
      go_wp2
      go_ret
      exact ⟨ret_int (by rw [hR.out, hf.out]), iter_below _ _ _⟩
end Go.Proofs.YtimgocfkogebmaaGreatDoor
namespace Go.Proofs.YtimgocfkogebmaaGreatDoor
open Go.RowKit
set_option linter.unusedVariables false
set_option linter.unusedSimpArgs false
theorem empty_no {s : ByteArray} (h : 0 < s.size) : s.toList.isEmpty = false := by
  rw [ByteArray.toList_eq]
  cases hq : s.data.toList with
  | nil =>
    have h0 : s.size = 0 := by have := congrArg List.length hq; rw [Array.length_toList] at this; exact this
    omega
  | cons c l => rfl
theorem empty_yes {s : ByteArray} (h : ¬ 0 < s.size) : s.toList.isEmpty = true := by
  rw [ByteArray.toList_eq]
  have h1 : s.data.toList.length = 0 := by rw [Array.length_toList]; show s.size = 0; omega
  rw [List.length_eq_zero_iff.1 h1]
  rfl
set_option maxRecDepth 100000 in
theorem begins_any (s : ByteArray) (w : World) : Calls Tryz.prog 148 #[.string s] w (SetTo (.bool (begB s)) w) := by
  by_cases h0 : 0 < s.size
  · have he := empty_no h0
    have hc := codes_at s 0 h0
    have hR : Hid (begB s = letterI ((codes s).getD 0 0)) := Lib.hid (by unfold begB; rw [decide_eq_true h0, Bool.true_and])
    rw [hc] at hR
    have hw : IntKind.i32.wrap ((s[0]'h0).toNat : Int) = ((s[0]'h0).toNat : Int) := by
      have := (s[0]'h0).toNat_lt
      simp [IntKind.wrap, IntKind.bits, IntKind.signed]; omega
    have q := Lib.hid (letter_any ((s[0]'h0).toNat : Int) w)
    have h0i : (0 : Int) < (s.size : Int) := by omega
    have hxa : (s[0]'h0).toNat < 256 := (s[0]'h0).toNat_lt
    clear hc
    generalize letterI ((s[0]'h0).toNat : Int) = L at *
    go_enter Tryz.func148, Tryz.ntmps148
    go_wp2_with fail
    refine q.out.mono ?_
    rintro e w1 ⟨rfl, rfl⟩
    go_wp2
    go_ret
    exact ⟨ret_bool hR.out.symm, rfl⟩
  · have he := empty_yes h0
    have hR : Hid (begB s = false) := Lib.hid (by unfold begB; rw [decide_eq_false h0, Bool.false_and])
    go_enter Tryz.func148, Tryz.ntmps148
    go_wp2
    go_ret
    exact ⟨ret_bool hR.out.symm, rfl⟩
set_option maxRecDepth 100000 in
theorem name_any (s : ByteArray) (w : World) : Calls Tryz.prog 107 #[.string s] w (Gives (.bool (nameB s)) w) := by
  by_cases h0 : s.size ≤ 32
  · have h0i : (s.size : Int) ≤ 32 := by omega
    have q1 := Lib.hid (begins_any s w)
    have q2 := Lib.hid (nameSize_any s (by omega) w)
    cases hb : begB s
    · have hR : Hid (nameB s = false) := Lib.hid (by unfold nameB; rw [hb, Bool.false_and, Bool.and_false])
      rw [hb] at q1
      clear hb
      go_enter Tryz.func107, Tryz.ntmps107
      go_wp2_with fail
      refine q1.out.mono ?_
      rintro e w1 ⟨rfl, rfl⟩
      go_wp2
      go_ret
      exact ⟨ret_bool hR.out.symm, Below.refl _ _⟩
    · have hR : Hid (nameB s = decide (nsz s = s.size)) := Lib.hid (by unfold nameB; rw [hb, decide_eq_true h0, Bool.true_and, Bool.true_and])
      rw [hb] at q1
      have hle := nsz_le s
      clear hb
      generalize nameB s = R at *
      generalize nsz s = k at *
      have hle' := Lib.hid hle
      clear hle
      go_enter Tryz.func107, Tryz.ntmps107
      go_wp2_with fail
      refine q1.out.mono ?_
      rintro e w1 ⟨rfl, rfl⟩
      go_wp2_with fail
      refine q2.out.mono ?_
      rintro e w2 ⟨rfl, hb2⟩
      go_wp2
      go_ret
      exact ⟨ret_bool (by rw [hR.out, Bool.eq_iff_iff]; first | (simp; done) | (simp; omega)), hb2⟩
  · have h0i : ¬ (s.size : Int) ≤ 32 := by omega
    have hR : Hid (nameB s = false) := Lib.hid (by unfold nameB; rw [decide_eq_false h0, Bool.false_and])
    go_enter Tryz.func107, Tryz.ntmps107
    go_wp2
    go_ret
    exact ⟨ret_bool hR.out.symm, Below.refl _ _⟩
theorem name_no {s : ByteArray} {k : Nat} (hk : k < s.size) (h : moreI ((codes s).getD k 0) = false) : nameB s = false := by
  unfold nameB
  have : nsz s ≠ s.size := by
    intro e
    have h1 : ∀ l : List Int, ∀ j, j < (l.takeWhile moreI).length → moreI (l.getD j 0) = true := by
      intro l
      induction l with
      | nil => intro j hj; simp at hj
      | cons x l ih =>
        intro j hj
        by_cases hx : moreI x = true
        · simp [hx] at hj
          cases j with
          | zero => simpa using hx
          | succ j => simpa using ih j (by omega)
        · simp [hx] at hj
    have h2 := h1 (codes s) k (by have : nsz s = _ := rfl; unfold nsz at e; omega)
    rw [h] at h2; cases h2
  rw [decide_eq_false this, Bool.and_false, Bool.and_false]
theorem name_yes {s : ByteArray} (h : ∀ t, t < s.size → moreI ((codes s).getD t 0) = true) : nameB s = (decide (0 < s.size) && (decide (s.size ≤ 32) && letterI ((codes s).getD 0 0))) := by
  unfold nameB begB
  rw [decide_eq_true (nsz_whole h)]
  cases decide (s.size ≤ 32) <;> cases decide (0 < s.size) <;> cases letterI ((codes s).getD 0 0) <;> rfl
set_option maxRecDepth 100000 in
set_option maxHeartbeats 1000000 in
theorem rname_any (s : ByteArray) (hs : s.size ≤ 9223372036854775806) (w : World) : Calls Tryz.prog 33 #[.string s] w (SetTo (.bool (nameB s)) w) := by
  obtain ⟨R, hR'⟩ : ∃ R, R = nameB s := ⟨_, rfl⟩
  have hR := Lib.hid hR'
  rw [← hR']
  clear hR'
  go_enter Tryz.func33, Tryz.ntmps33
  go_wp2
  go_loop [3] (fun x => ∃ k : Nat, k ≤ s.size ∧ x = .int .i64 k ∧ Hid (∀ t, t < k → moreI ((codes s).getD t 0) = true)) (fun x => s.size - (intOf x).toNat)
  case atStart => exact ⟨0, Nat.zero_le _, rfl, Lib.hid (fun t ht => by omega)⟩
  case round =>
    obtain ⟨k, hk, rfl, hal⟩ := hrel
    by_cases hp : k < s.size
    · have hpi : (k : Int) < (s.size : Int) := by omega
      have hat := Lib.hid (codes_at s k hp)
      have q := Lib.hid (rmore_any ((s[k]'hp).toNat : Int) w)
      cases hm : moreI ((s[k]'hp).toNat : Int)
      · have hf := Lib.hid (name_no hp (by rw [hat.out]; exact hm))
        rw [hm] at q
        clear hm
        go_wp2_with fail
        refine q.out.mono ?_
        rintro e w1 ⟨rfl, rfl⟩
        go_wp2
        go_ret
        exact ⟨ret_bool (by rw [hR.out, hf.out]), rfl⟩
      · have hn : Hid (∀ t, t < k + 1 → moreI ((codes s).getD t 0) = true) := Lib.hid (fun t ht => by
          by_cases e : t = k
          · rw [e, hat.out]; exact hm
          · exact hal.out t (by omega))
        rw [hm] at q
        clear hm hal hat
        go_wp2_with fail
        refine q.out.mono ?_
        rintro e w1 ⟨rfl, rfl⟩
        go_wp2
        go_round
        case rel => exact ⟨k + 1, by omega, by go_num, hn⟩
        case measure => simp [intOf]; omega
    · have hpi : ¬ (k : Int) < (s.size : Int) := by omega
      have hY := Lib.hid (name_yes (s := s) (fun t ht => hal.out t (by omega)))
      clear hal
      by_cases h0 : 0 < s.size
      · have h0i : (0 : Int) < (s.size : Int) := by omega
        by_cases h1 : s.size ≤ 32
        · have h1i : (s.size : Int) ≤ 32 := by omega
          have q := Lib.hid (rletter_any ((s[0]'h0).toNat : Int) w)
          have hF : Hid (R = letterI ((s[0]'h0).toNat : Int)) := Lib.hid (by rw [hR.out, hY.out, decide_eq_true h0, decide_eq_true h1, codes_at s 0 h0]; rfl)
          clear hY hR
          go_wp2_with fail
          refine q.out.mono ?_
          rintro e w1 ⟨rfl, rfl⟩
          go_wp2
          go_ret
          exact ⟨ret_bool hF.out.symm, rfl⟩
        · have h1i : ¬ (s.size : Int) ≤ 32 := by omega
          have hF : Hid (R = false) := Lib.hid (by rw [hR.out, hY.out, decide_eq_true h0, decide_eq_false h1]; rfl)
          clear hY hR
          go_wp2
          go_ret
          exact ⟨ret_bool hF.out.symm, rfl⟩
      · have h0i : ¬ (0 : Int) < (s.size : Int) := by omega
        have hF : Hid (R = false) := Lib.hid (by rw [hR.out, hY.out, decide_eq_false h0]; rfl)
        clear hY hR
        go_wp2
        go_ret
        exact ⟨ret_bool hF.out.symm, rfl⟩
end Go.Proofs.YtimgocfkogebmaaGreatDoor
namespace Go.Proofs
open Go.Shelf
def Tryz.laysM171_ren : Go.Shelf.Ren := ⟨fun | 171 => 207 | 243 => 215 | 246 => 222 | 283 => 223 | 284 => 224 | 285 => 225 | 286 => 226 | 129 => 129 | 317 => 227 | 318 => 228 | 319 => 229 | 320 => 230 | 337 => 231 | 338 => 232 | n => n, fun | 3 => 3 | 9 => 9 | 2 => 2 | 4 => 4 | 171 => 208 | 0 => 0 | 53 => 156 | 37 => 210 | 5 => 5 | 173 => 211 | 212 => 213 | 51 => 154 | 20 => 20 | 213 => 214 | 46 => 109 | 232 => 215 | 233 => 216 | n => n, fun | 17 => 0 | 18 => 1 | 19 => 2 | n => n⟩
theorem Tryz.laysM171 : Go.Proofs.LaysM.n171 Tryz.prog Tryz.laysM171_ren := {
  mixed := by kernel_rfl
  f129 := Tryz.func129.trans (congrArg some (by kernel_rfl))
  f171 := Tryz.func207.trans (congrArg some (by kernel_rfl))
  f243 := Tryz.func215.trans (congrArg some (by kernel_rfl))
  f246 := Tryz.func222.trans (congrArg some (by kernel_rfl))
  f283 := Tryz.func223.trans (congrArg some (by kernel_rfl))
  f284 := Tryz.func224.trans (congrArg some (by kernel_rfl))
  f285 := Tryz.func225.trans (congrArg some (by kernel_rfl))
  f286 := Tryz.func226.trans (congrArg some (by kernel_rfl))
  f317 := Tryz.func227.trans (congrArg some (by kernel_rfl))
  f318 := Tryz.func228.trans (congrArg some (by kernel_rfl))
  f319 := Tryz.func229.trans (congrArg some (by kernel_rfl))
  f320 := Tryz.func230.trans (congrArg some (by kernel_rfl))
  f337 := Tryz.func231.trans (congrArg some (by kernel_rfl))
  f338 := Tryz.func232.trans (congrArg some (by kernel_rfl))
  t0 := Tryz.underlying0
  a0 := Tryz.isAgg0
  z0 := Tryz.sizeOf0
  v0 := Tryz.zeroValue0
  t2 := Tryz.underlying2
  a2 := Tryz.isAgg2
  z2 := Tryz.sizeOf2
  v2 := Tryz.zeroValue2
  t3 := Tryz.underlying3
  a3 := Tryz.isAgg3
  z3 := Tryz.sizeOf3
  v3 := Tryz.zeroValue3
  t4 := Tryz.underlying4
  a4 := Tryz.isAgg4
  z4 := Tryz.sizeOf4
  v4 := Tryz.zeroValue4
  t5 := Tryz.underlying5
  a5 := Tryz.isAgg5
  z5 := Tryz.sizeOf5
  v5 := Tryz.zeroValue5
  t9 := Tryz.underlying9
  a9 := Tryz.isAgg9
  z9 := Tryz.sizeOf9
  v9 := Tryz.zeroValue9
  t20 := Tryz.underlying20
  a20 := Tryz.isAgg20
  z20 := Tryz.sizeOf20
  v20 := Tryz.zeroValue20
  t37 := Tryz.underlying210
  a37 := Tryz.isAgg210
  z37 := Tryz.sizeOf210
  v37 := Tryz.zeroValue210
  t46 := Tryz.underlying109
  a46 := Tryz.isAgg109
  z46 := Tryz.sizeOf109
  v46 := Tryz.zeroValue109
  t51 := Tryz.underlying154
  a51 := Tryz.isAgg154
  z51 := Tryz.sizeOf154
  v51 := Tryz.zeroValue154
  t53 := Tryz.underlying156
  a53 := Tryz.isAgg156
  z53 := Tryz.sizeOf156
  v53 := Tryz.zeroValue156
  t171 := Tryz.underlying208
  a171 := Tryz.isAgg208
  z171 := Tryz.sizeOf208
  v171 := Tryz.zeroValue208
  t173 := Tryz.underlying211
  a173 := Tryz.isAgg211
  z173 := Tryz.sizeOf211
  v173 := Tryz.zeroValue211
  t212 := Tryz.underlying213
  a212 := Tryz.isAgg213
  z212 := Tryz.sizeOf213
  v212 := Tryz.zeroValue213
  t213 := Tryz.underlying214
  a213 := Tryz.isAgg214
  z213 := Tryz.sizeOf214
  t232 := Tryz.underlying215
  a232 := Tryz.isAgg215
  z232 := Tryz.sizeOf215
  v232 := Tryz.zeroValue215
  t233 := Tryz.underlying216
  a233 := Tryz.isAgg216
  z233 := Tryz.sizeOf216
  v233 := Tryz.zeroValue216
  g17 := by kernel_rfl
  g18 := by kernel_rfl
  g19 := by kernel_rfl
  i0 := by kernel_rfl
  i2 := by kernel_rfl
  i3 := by kernel_rfl
  i4 := by kernel_rfl
  i5 := by kernel_rfl
  i9 := by kernel_rfl
  i20 := by kernel_rfl
  i37 := by kernel_rfl
  i46 := by kernel_rfl
  i51 := by kernel_rfl
  i53 := by kernel_rfl
  i171 := by kernel_rfl
  i173 := by kernel_rfl
  i212 := by kernel_rfl
  i232 := by kernel_rfl
  i233 := by kernel_rfl
  m17 := by kernel_rfl
  m18 := by kernel_rfl
  m19 := by kernel_rfl }
open Go.RowKit Go.Sort Go.Lib in
theorem Tryz.strconv_Itoa (n : Int) (h0 : -9223372036854775808 ≤ n) (h1 : n ≤ 9223372036854775807) (w : World) (htab : Lib.TabIs Tryz.prog w "internal/strconv.uint64pow10" .u64 Lib.pow10Tab) :
    Calls Tryz.prog 207 #[.int .i64 n] w fun e w' => e = .returned (.string ⟨(Lib.itoa n).toArray⟩) ∧ ∃ k os, w' = grow (w.drewN k) os := Any.strconv_Itoa Tryz.laysM171 n h0 h1 w htab
def Tryz.laysGw17_ren : Go.Shelf.Ren := ⟨fun | 17 => 68 | 15 => 117 | 20 => 162 | n => n, fun | 9 => 9 | 23 => 104 | 4 => 4 | 3 => 3 | 0 => 0 | 21 => 21 | n => n, fun | n => n⟩
theorem Tryz.laysGw17 : Go.Proofs.LaysGw.n17 Tryz.prog Tryz.laysGw17_ren := {
  mixed := by kernel_rfl
  f15 := Tryz.func117.trans (congrArg some (by kernel_rfl))
  f17 := Tryz.func68.trans (congrArg some (by kernel_rfl))
  f20 := Tryz.func162.trans (congrArg some (by kernel_rfl))
  t0 := Tryz.underlying0
  a0 := Tryz.isAgg0
  z0 := Tryz.sizeOf0
  v0 := Tryz.zeroValue0
  i0 := by kernel_rfl
  t3 := Tryz.underlying3
  a3 := Tryz.isAgg3
  z3 := Tryz.sizeOf3
  v3 := Tryz.zeroValue3
  i3 := by kernel_rfl
  t4 := Tryz.underlying4
  a4 := Tryz.isAgg4
  z4 := Tryz.sizeOf4
  v4 := Tryz.zeroValue4
  i4 := by kernel_rfl
  t9 := Tryz.underlying9
  a9 := Tryz.isAgg9
  z9 := Tryz.sizeOf9
  v9 := Tryz.zeroValue9
  i9 := by kernel_rfl
  t21 := Tryz.underlying21
  a21 := Tryz.isAgg21
  z21 := Tryz.sizeOf21
  v21 := Tryz.zeroValue21
  i21 := by kernel_rfl
  t23 := Tryz.underlying104
  a23 := Tryz.isAgg104
  z23 := Tryz.sizeOf104
  v23 := Tryz.zeroValue104
  i23 := by kernel_rfl }
def Tryz.lays101_ren : Go.Shelf.Ren := ⟨fun | 101 => 89 | 208 => 138 | 206 => 183 | n => n, fun | 9 => 9 | 4 => 4 | 3 => 3 | n => n, fun | n => n⟩
theorem Tryz.lays101 : Go.Proofs.Lays.n101 Tryz.prog Tryz.lays101_ren := {
  mixed := by kernel_rfl
  f101 := Tryz.func89.trans (congrArg some (by kernel_rfl))
  f206 := Tryz.func183.trans (congrArg some (by kernel_rfl))
  f208 := Tryz.func138.trans (congrArg some (by kernel_rfl))
  t3 := Tryz.underlying3
  a3 := Tryz.isAgg3
  z3 := Tryz.sizeOf3
  v3 := Tryz.zeroValue3
  t4 := Tryz.underlying4
  a4 := Tryz.isAgg4
  z4 := Tryz.sizeOf4
  v4 := Tryz.zeroValue4
  t9 := Tryz.underlying9
  a9 := Tryz.isAgg9
  z9 := Tryz.sizeOf9
  v9 := Tryz.zeroValue9 }
open Go.RowKit Go.Lib in
theorem Tryz.strings_TrimPrefix (s p : ByteArray) (w : World) :
    Calls Tryz.prog 89 #[.string s, .string p] w fun e w' => e = .returned (.string ⟨(Lib.trimPrefix s.data.toList p.data.toList).toArray⟩) ∧ w' = w := Any.strings_TrimPrefix Tryz.lays101 s p w
open Go.RowKit Go.Lib in
theorem Tryz.strings_ContainsFunc_grows (g : Nat) (lb : Array Value) (eg : ∀ args w, (callFunc g args).run Tryz.prog w = .ok (.enter g args) w) (p : Nat → Bool) (s : ByteArray) (w : World) (hp : PredGrows Tryz.prog g lb p w) :
    Calls Tryz.prog 68 #[.string s, .func (.func g) #[] lb] w fun e w' => e = .returned (.bool (decide (0 ≤ Lib.idxFunc p true s))) ∧ Below w.heap.size w w' := Any.strings_ContainsFunc_grows Tryz.laysGw17 g lb eg p s w hp
def Tryz.lays110_ren : Go.Shelf.Ren := ⟨fun | 110 => 151 | 109 => 191 | n => n, fun | 31 => 34 | 9 => 9 | 4 => 4 | 3 => 3 | 0 => 0 | n => n, fun | n => n⟩
theorem Tryz.lays110 : Go.Proofs.Lays.n110 Tryz.prog Tryz.lays110_ren := {
  mixed := by kernel_rfl
  f109 := Tryz.func191.trans (congrArg some (by kernel_rfl))
  f110 := Tryz.func151.trans (congrArg some (by kernel_rfl))
  t0 := Tryz.underlying0
  a0 := Tryz.isAgg0
  z0 := Tryz.sizeOf0
  v0 := Tryz.zeroValue0
  t3 := Tryz.underlying3
  a3 := Tryz.isAgg3
  z3 := Tryz.sizeOf3
  v3 := Tryz.zeroValue3
  t4 := Tryz.underlying4
  a4 := Tryz.isAgg4
  z4 := Tryz.sizeOf4
  v4 := Tryz.zeroValue4
  t9 := Tryz.underlying9
  a9 := Tryz.isAgg9
  z9 := Tryz.sizeOf9
  v9 := Tryz.zeroValue9
  t31 := Tryz.underlying34
  a31 := Tryz.isAgg34
  z31 := Tryz.sizeOf34
  v31 := Tryz.zeroValue34 }
open Go.Lib in
theorem Tryz.slices_Contains_string (b off n c : Nat) (zs : List ByteArray) (x : ByteArray) (w : World) (hz : n ≤ zs.length) (hbig : n ≤ 9223372036854775807) (hc : ∀ j, j < zs.length → w.cell? ⟨b, off + j, none⟩ = some (.string (zs.getD j ByteArray.empty))) :
    Calls Tryz.prog 151 #[.slice (some ⟨b, off, none⟩) n c, .string x] w fun e w' => e = .returned (.bool (Lib.containsS (zs.take n) x)) ∧ w' = w := Any.slices_Contains_string Tryz.lays110 b off n c zs x w hz hbig hc
end Go.Proofs
