/- Sections in memory: rows of tags and bodies. -/
import Derived.Test.YtnjdgnlgdokddaaStructs
import Derived.Test.YtnjdgnlgdokddaaPuts
import Derived.Test.YtnjdgnlgdokddaaRows
namespace Go.Proofs.Ytnjdgnlgdokddaa
open Go.RowKit Go.ChangeShapes Go.WideShapes Go.Deep
set_option linter.unusedVariables false
set_option linter.unusedSimpArgs false

/-- A section: its tag, where its body lies, its body. -/
structure Sc where
  tag : Int
  a : Option Addr
  m : Nat
  c : Nat
  b : List Int
def sc0 : Sc := ⟨0, none, 0, 0, []⟩
def absS (s : Sc) : Int × List Int := (s.tag, s.b)
def ScOK (B : Nat) (w : World) (s : Sc) : Prop := (Lit.int .i64 s.tag).wf = true ∧ s.m = s.b.length ∧ s.m ≤ s.c ∧ s.m ≤ maxLen ∧ Bs s.b ∧ Sees .u8 B w s.a s.b
def ScAt (B : Nat) (w : World) (b off i : Nat) (s : Sc) : Prop :=
  w.cell? ⟨b, off + i * 2, none⟩ = some (.int .i64 s.tag) ∧ w.cell? ⟨b, off + i * 2 + 1, none⟩ = some (.slice s.a s.m s.c) ∧ ScOK B w s
/-- A slice value reads, in w, as the sections l; all lies below block B. -/
def SecS (B : Nat) (w : World) (r : Option Addr) (l : List Sc) : Prop :=
  l = [] ∨ ∃ b off, r = some ⟨b, off, none⟩ ∧ b < B ∧ ∀ i, i < l.length → ScAt B w b off i (l.getD i sc0)
theorem ScOK.below {B : Nat} {w w' : World} {s : Sc} (h : ScOK B w s) (hb : Below B w w') : ScOK B w' s := ⟨h.1, h.2.1, h.2.2.1, h.2.2.2.1, h.2.2.2.2.1, h.2.2.2.2.2.below hb⟩
theorem ScOK.mono {B B' : Nat} {w : World} {s : Sc} (h : ScOK B w s) (hb : B ≤ B') : ScOK B' w s := ⟨h.1, h.2.1, h.2.2.1, h.2.2.2.1, h.2.2.2.2.1, h.2.2.2.2.2.mono hb⟩
theorem SecS.below {B : Nat} {w w' : World} {r : Option Addr} {l : List Sc} (h : SecS B w r l) (hb : Below B w w') : SecS B w' r l := by
  rcases h with h | ⟨b, off, hr, hB, h⟩
  · exact .inl h
  · exact .inr ⟨b, off, hr, hB, fun i hi => by
      obtain ⟨h1, h2, h3⟩ := h i hi
      exact ⟨(hb.cell (p := ⟨b, _, none⟩) hB).trans h1, (hb.cell (p := ⟨b, _, none⟩) hB).trans h2, h3.below hb⟩⟩
theorem SecS.mono {B B' : Nat} {w : World} {r : Option Addr} {l : List Sc} (h : SecS B w r l) (hb : B ≤ B') : SecS B' w r l := by
  rcases h with h | ⟨b, off, hr, hB, h⟩
  · exact .inl h
  · exact .inr ⟨b, off, hr, by omega, fun i hi => ⟨(h i hi).1, (h i hi).2.1, (h i hi).2.2.mono hb⟩⟩
theorem SecS.at_ {B : Nat} {w : World} {r : Option Addr} {l : List Sc} (h : SecS B w r l) {i : Nat} (hi : i < l.length) : ∃ b off, r = some ⟨b, off, none⟩ ∧ b < B ∧ ScAt B w b off i (l.getD i sc0) := by
  rcases h with h | ⟨b, off, hr, hB, h⟩
  · rw [h] at hi; simp at hi
  · exact ⟨b, off, hr, hB, h i hi⟩
theorem SecS.take {B : Nat} {w : World} {r : Option Addr} {l : List Sc} (h : SecS B w r l) (n : Nat) : SecS B w r (l.take n) := by
  rcases h with h | ⟨b, off, hr, hB, h⟩
  · left; simp [h]
  · refine .inr ⟨b, off, hr, hB, fun i hi => ?_⟩
    have h1 : i < l.length := by simp at hi; omega
    have h2 : i < n := by simp at hi; omega
    have := h i h1
    rwa [show (l.take n).getD i sc0 = l.getD i sc0 by simp [List.getD, h2]]
/-- What came in. -/
def SecSl (w : World) (r : Option Addr) (len cap : Nat) : Prop := len ≤ cap ∧ cap ≤ maxLen ∧ ∃ l : List Sc, l.length = len ∧ SecS w.heap.size w r l
theorem spot_none' {w : World} {a : Addr} {v : Value} (h : w.cell? (a.add 0) = some v) : a.spot = none := by
  have := World.cell?_spot h
  simpa [Addr.add] using this
theorem add_plain' (b off i : Nat) : (⟨b, off, none⟩ : Addr).add i = ⟨b, off + i, none⟩ := by unfold Addr.add; split <;> simp_all
theorem sec_row {H : Type} {enc : TypeId × Value → H} {w : World} {fuel : Nat} {r : Option Addr} {len cap : Nat} {x : DataW H × List MemPlace}
    (h : DataW.trod enc Try.prog w 0 (fun _ => true) true fuel 22 [.slice r len cap] = some x) : SecSl w r len cap := by
  obtain ⟨h1, h2, h3⟩ := struct_row Try.underlying22 Try.underlying39 (by kernel_rfl) (by kernel_rfl) (by decide) h
  refine ⟨h1, h2, ?_⟩
  rcases h3 with rfl | ⟨b, off, rfl, hlt, h3⟩
  · exact ⟨[], rfl, .inl rfl⟩
  · have key : ∀ i, ∃ s : Sc, i < len → ScAt w.heap.size w b off i s := by
      intro i
      by_cases hi : i < len
      · obtain ⟨v0, y0, n0, c0, t0⟩ := h3 i hi 0 _ rfl
        obtain ⟨v1, y1, n1, c1, t1⟩ := h3 i hi 1 _ rfl
        obtain ⟨k0, e0, _, w0⟩ := DataW.trod_int Try.underlying3 t0
        simp at e0
        subst e0
        rcases open_ints Try.underlying25 Try.underlying5 (by kernel_rfl) t1 with ⟨hcs, _⟩ | ⟨a', l, c, zs, hcs, _, hl, hm, hz, _, hcell, hwz⟩
        · simp at hcs
          subst hcs
          exact ⟨⟨k0, none, 0, 0, []⟩, fun _ => ⟨c0, c1, w0, rfl, by simp, by simp, fun x hx => by simp at hx, .inl rfl⟩⟩
        · simp at hcs
          subst hcs
          simp only [if_true] at hz
          refine ⟨⟨k0, some a', l, c, zs.take l⟩, fun _ => ⟨c0, c1, w0, by simp; omega, hl, Nat.le_trans hl hm, bs_of_wf (fun n hn => hwz n (List.mem_of_mem_take hn)), ?_⟩⟩
          by_cases hL : l = 0
          · left; simp [hL]
          · right
            obtain ⟨b', off', spot'⟩ := a'
            have h8 := hcell 0 (by omega)
            have hs : spot' = none := spot_none' h8
            subst hs
            rw [add_plain'] at h8
            refine ⟨b', off', rfl, World.block_lt_of_cell? w _ h8, fun j hj => ?_⟩
            have hj' : j < l := by simp at hj; omega
            have h9 := hcell j (by omega)
            rw [add_plain'] at h9
            rw [h9]
            simp [List.getD, hj']
      · exact ⟨sc0, fun h => absurd h hi⟩
    refine ⟨(List.range len).map fun i => Classical.choose (key i), by simp, .inr ⟨b, off, rfl, hlt, fun i hi => ?_⟩⟩
    have hi' : i < len := by simpa using hi
    rw [show ((List.range len).map fun i => Classical.choose (key i)).getD i sc0 = Classical.choose (key i) by simp [List.getD, hi']]
    exact Classical.choose_spec (key i) hi'

/-- The cells of sections. -/
def scells (l : List Sc) : List Value := l.flatMap fun s => [.int .i64 s.tag, .slice s.a s.m s.c]
theorem scells_length (l : List Sc) : (scells l).length = l.length * 2 := by
  induction l with
  | nil => rfl
  | cons s l ih => simp [scells] at ih ⊢; omega
theorem scells_at {l : List Sc} {i : Nat} (hi : i < l.length) : (scells l)[i * 2]? = some (.int .i64 (l.getD i sc0).tag) ∧ (scells l)[i * 2 + 1]? = some (.slice (l.getD i sc0).a (l.getD i sc0).m (l.getD i sc0).c) := by
  induction l generalizing i with
  | nil => simp at hi
  | cons s l ih =>
    cases i with
    | zero => simp [scells]
    | succ i =>
      have := ih (i := i) (by simpa using hi)
      have e1 : (i + 1) * 2 = i * 2 + 1 + 1 := by omega
      rw [e1]
      simpa [scells, List.getD] using this
/-- A row of one's own reads as its sections. -/
theorem secs_own {w : World} {base : Nat} {e : TypeId} {v : Value} {n B : Nat} {l : List Sc} (h : w.ownsRow base e 2 v n (scells l)) (hok : ∀ s ∈ l, ScOK B w s) (hB : B ≤ w.heap.size) :
    ∃ a cap, v = .slice a l.length cap ∧ n = l.length ∧ l.length ≤ cap ∧ cap ≤ maxLen ∧ SecS w.heap.size w a l := by
  have hn : n = l.length := by have := h.1; rw [scells_length] at this; omega
  rcases h.2 with ⟨rfl, h0⟩ | ⟨g, cap, cur, rfl, _, hg, hc1, hc2, _⟩
  · subst hn
    exact ⟨none, 0, by rw [h0], rfl, by omega, by simp, .inl (List.eq_nil_of_length_eq_zero h0)⟩
  · subst hn
    refine ⟨_, cap, rfl, rfl, hc1, hc2, .inr ⟨g, 0, rfl, (Array.getElem?_eq_some_iff.1 hg).1, fun i hi => ?_⟩⟩
    obtain ⟨q1, q2⟩ := scells_at hi
    have h1 := h.cells (g := g) rfl _ _ q1
    have h2 := h.cells (g := g) rfl _ _ q2
    rw [add_plain'] at h1 h2
    refine ⟨h1, by rw [← Nat.add_assoc] at h2; exact h2, ?_⟩
    have : l.getD i sc0 ∈ l := by simp [List.getD, hi]
    exact (hok _ this).mono hB
/-- A literal of sections. -/
theorem secs_lit (w : World) (e : TypeId) (l : List Sc) (cs : Array Value) (h : cs = (scells l).toArray) (hok : ∀ s ∈ l, ScOK w.heap.size w s) (fr : Nat × Nat := (0, 0)) : SecS (w.alloc (.cells cs e fr)).heap.size (w.alloc (.cells cs e fr)) (some ⟨w.heap.size, 0, none⟩) l := by
  subst h
  have hb : Below w.heap.size w (w.alloc (.cells (scells l).toArray e fr)) := (Below.refl _ _).alloc (Nat.le_refl _) _
  refine .inr ⟨w.heap.size, 0, rfl, by simp, fun i hi => ?_⟩
  obtain ⟨q1, q2⟩ := scells_at hi
  have : l.getD i sc0 ∈ l := by simp [List.getD, hi]
  refine ⟨?_, ?_, ((hok _ this).below hb).mono hb.size⟩
  · rw [cell_of_row _ _ _ _ _ _ (heap_alloc_new w _)]; simpa using q1
  · rw [cell_of_row _ _ _ _ _ _ (heap_alloc_new w _)]; simpa using q2
end Go.Proofs.Ytnjdgnlgdokddaa
