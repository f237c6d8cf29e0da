/- A disk, as plain data and in memory. -/
import Derived.Test.YtjhakmpinloioaaClone
import Derived.IntWalk
namespace Go.Proofs.Ytjhakmpinloioaa
open Go.RowKit
set_option linter.unusedVariables false

def upd (l : Nat → List Int) (n : Nat) (x : List Int) : Nat → List Int := fun i => if i = n then x else l i
/-- Two files' bytes; without power; armed, with how much. -/
structure St where
  l : Nat → List Int
  off : Bool
  armed : Bool
  left : Nat
/-- How much of a cost is paid; what is told; what is left. -/
def St.paid (s : St) (cost : Nat) : Nat := if s.armed then min cost s.left else cost
def St.code (s : St) (cost : Nat) : Int := if s.armed = true ∧ s.left < cost then 280 else 0
def St.after (s : St) (cost : Nat) : St := if s.armed then (if s.left < cost then ⟨s.l, true, false, 0⟩ else ⟨s.l, s.off, true, s.left - cost⟩) else s
def St.with_ (s : St) (l : Nat → List Int) : St := ⟨l, s.off, s.armed, s.left⟩
/-- What a call tells, and what it leaves. -/
def writeO (s : St) (n : Int) (b : List Int) : Int × St :=
  if s.off then (280, s) else if n ≠ 0 ∧ n ≠ 1 then (1, s) else if 4194304 < (s.l n.toNat).length + b.length then (2, s)
  else (s.code b.length, (s.after b.length).with_ (upd s.l n.toNat (s.l n.toNat ++ b.take (s.paid b.length))))
def cutO (s : St) (n size : Int) : Int × St :=
  if s.off then (280, s) else if n ≠ 0 ∧ n ≠ 1 then (1, s) else if size < 0 ∨ ((s.l n.toNat).length : Int) < size then (1, s)
  else (s.code 1, (s.after 1).with_ (if s.paid 1 = 1 then upd s.l n.toNat ((s.l n.toNat).take size.toNat) else s.l))
def spoilO (s : St) (n from_ : Int) (b : List Int) : Int × St :=
  if n ≠ 0 ∧ n ≠ 1 then (1, s) else if from_ < 0 ∨ ((s.l n.toNat).length : Int) < from_ then (1, s) else if 4194304 < from_ + b.length then (2, s)
  else (0, s.with_ (upd s.l n.toNat ((s.l n.toNat).take from_.toNat ++ b)))
/-- What is read: the bytes, or none; what is told. -/
def readO (s : St) (n : Int) : List Int × Int := if s.off then ([], 280) else if n ≠ 0 ∧ n ≠ 1 then ([], 1) else (s.l n.toNat, 0)
def armO (s : St) (k : Int) : St := ⟨s.l, s.off, true, k.toNat⟩
def wakeO (s : St) : St := ⟨s.l, false, false, s.left⟩
/-- What is within the limits. -/
def St.fine (s : St) : Prop := (s.l 0).length ≤ 4194304 ∧ (s.l 1).length ≤ 4194304 ∧ s.left ≤ 9223372036854775807

/-- A disk in memory: block d; its files are rows of its own; F has all its blocks. -/
def Dk (w : World) (d : Nat) (F : List Nat) (s : St) : Prop :=
  ∃ v0 v1, Holds w d 47 #[v0, v1, .bool s.off, .bool s.armed, .int .i64 s.left] ∧
    w.ownsRow 0 5 1 v0 (s.l 0).length (nums .u8 (s.l 0)) ∧ w.ownsRow 0 5 1 v1 (s.l 1).length (nums .u8 (s.l 1)) ∧
    d ∈ F ∧ (∀ b, v0.ownBlock = some b → b ∈ F ∧ b ≠ d) ∧ (∀ b, v1.ownBlock = some b → b ∈ F ∧ b ≠ d) ∧ (∀ b, v0.ownBlock = some b → v1.ownBlock ≠ some b) ∧ ∀ x ∈ F, x < w.heap.size
/-- What a call makes of an object whose blocks are F: nothing else has turned; its blocks are F's, or new ones. -/
def Turns (F F' : List Nat) (w w' : World) : Prop := BelowE F w.heap.size w w' ∧ ∀ x ∈ F', x ∈ F ∨ w.heap.size ≤ x
theorem Turns.trans {F F' F'' : List Nat} {w w' w'' : World} (h : Turns F F' w w') (k : Turns F' F'' w' w'') : Turns F F'' w w'' := by
  refine ⟨h.1.trans ((k.1.mono h.1.size).less ?_), ?_⟩
  · intro x hx hl
    rcases h.2 x hx with h1 | h1
    · exact h1
    · omega
  · intro x hx
    rcases k.2 x hx with h1 | h1
    · exact h.2 x h1
    · right; have := h.1.size; omega
theorem Turns.before {F F' : List Nat} {w w1 w' : World} (hb : Below w.heap.size w w1) (h : Turns F F' w1 w') : Turns F F' w w' :=
  ⟨(BelowE.of hb).trans (h.1.mono hb.size), fun x hx => (h.2 x hx).imp id fun h => Nat.le_trans hb.size h⟩
theorem Turns.none (F : List Nat) {w w' : World} (hb : Below w.heap.size w w') : Turns F F w w' := ⟨.of hb, fun x hx => .inl hx⟩
theorem BelowE.toBelow {X : List Nat} {B : Nat} {w w' : World} (h : BelowE X B w w') (hx : ∀ x ∈ X, B ≤ x) : Below B w w' :=
  (h.less (Y := []) (fun x hm hl => absurd (hx x hm) (by omega))).none
/-- For one who looks at the beginning of all. -/
theorem Turns.all {W w w' : World} {F F' : List Nat} (h : Turns F F' w w') (hb : Below W.heap.size W w) (hF : ∀ x ∈ F, W.heap.size ≤ x) : Below W.heap.size W w' ∧ ∀ x ∈ F', W.heap.size ≤ x :=
  ⟨hb.trans ((h.1.mono hb.size).toBelow hF), fun x hx => (h.2 x hx).elim (hF x) (fun h => Nat.le_trans hb.size h)⟩
theorem Dk.belowE {w w' : World} {X : List Nat} {d : Nat} {F : List Nat} {s : St} (h : Dk w d F s) (hb : BelowE X w.heap.size w w') (hx : ∀ x ∈ F, x ∉ X) : Dk w' d F s := by
  obtain ⟨v0, v1, h1, h2, h3, h4, h5, h6, h7, h8⟩ := h
  exact ⟨v0, v1, h1.belowE hb h1.lt (hx d h4), own_belowE h2 hb fun k hk => hx k (h5 k hk).1, own_belowE h3 hb fun k hk => hx k (h6 k hk).1, h4, h5, h6, h7, fun x hx => Nat.lt_of_lt_of_le (h8 x hx) hb.size⟩
theorem Dk.below {w w' : World} {d : Nat} {F : List Nat} {s : St} (h : Dk w d F s) (hb : Below w.heap.size w w') : Dk w' d F s := h.belowE (.of hb) (X := []) (by simp)
theorem Dk.lt {w : World} {d : Nat} {F : List Nat} {s : St} (h : Dk w d F s) : d < w.heap.size := by
  obtain ⟨v0, v1, h1, _⟩ := h; exact h1.lt
theorem Dk.all {w : World} {d : Nat} {F : List Nat} {s : St} (h : Dk w d F s) : ∀ x ∈ F, x < w.heap.size := by
  obtain ⟨v0, v1, _, _, _, _, _, _, _, h8⟩ := h; exact h8
theorem Dk.same {w : World} {d : Nat} {F : List Nat} {s t : St} (h : Dk w d F s) (h0 : t.l 0 = s.l 0) (h1 : t.l 1 = s.l 1) (ho : t.off = s.off) (ha : t.armed = s.armed) (hl : t.left = s.left) : Dk w d F t := by
  unfold Dk at h ⊢; rw [h0, h1, ho, ha, hl]; exact h
/-- A call's end: what is told, the disk as it is then. -/
def Tells (r : Int × St) (d : Nat) (F : List Nat) (w : World) (e : Ending) (w' : World) : Prop := e = .returned (.int .i64 r.1) ∧ ∃ F', Dk w' d F' r.2 ∧ Turns F F' w w'
/-- A row that is cut is a row. -/
theorem own_cut {w : World} {base : Nat} {e : TypeId} {k : IntKind} {a : Option Addr} {n c : Nat} {l : List Int} (h : w.ownsRow base e 1 (.slice a n c) l.length (nums k l)) (m : Nat) (hm : m ≤ l.length) :
    w.ownsRow base e 1 (.slice a m c) (l.take m).length (nums k (l.take m)) ∧ m ≤ c := by
  rcases h.2 with ⟨h1, h2⟩ | ⟨g, cap, cur, hv, hg, hh, hnc, hcm, hcs, hx⟩
  · injection h1 with ha hn hc
    subst ha hn hc
    have hl0 : l = [] := List.eq_nil_of_length_eq_zero h2
    subst hl0
    have : m = 0 := by simpa using hm
    subst this
    exact ⟨⟨by simp [nums], .inl ⟨rfl, rfl⟩⟩, Nat.le_refl _⟩
  · injection hv with ha hn hc
    subst ha hn hc
    have hlm : (l.take m).length = m := by simp; omega
    refine ⟨⟨by simp [nums], .inr ⟨g, c, cur, by rw [hlm], hg, hh, by rw [hlm]; omega, hcm, hcs, ?_⟩⟩, by omega⟩
    rw [hlm]
    have h4 : cur.toList.take (m * 1) = (cur.toList.take (l.length * 1)).take m := by rw [List.take_take, Nat.min_eq_left (by omega), Nat.mul_one]
    rw [h4, hx]
    simp [nums, List.map_take]
end Go.Proofs.Ytjhakmpinloioaa
