/- What a reader tells, as plain functions on its bytes, its place, its error; what a reader is in memory; how a step of it ends. -/
import Derived.Test.YtkfgfbdlbiahkaaLebIs
import Derived.Test.YtkfgfbdlbiahkaaMem
namespace Go.Proofs.Ytkfgfbdlbiahkaa
open Go.RowKit
set_option linter.unusedVariables false

theorem got_put0 {l : List Int} (hb : Bs l) : (getL 0 0 1 l = (0, 0, 10)) ∨ (getL 0 0 1 l = (0, 0, 11)) ∨ ∃ (n : Int) (j : Nat), getL 0 0 1 l = (n, (j : Int), 0) ∧ 0 ≤ n ∧ n ≤ 18446744073709551615 ∧ j ≤ l.length := by
  rcases getL_put0 hb with h | h | ⟨n, j, h, h0, h1, h2, h3⟩
  · exact .inl h
  · exact .inr (.inl h)
  · exact .inr (.inr ⟨n, j, h, h0, h1, h3⟩)

/-- The number that is read at a place; the place behind it; why there is none. -/
def uN (bs : List Int) (p : Nat) : Int × Nat × Int := ((getL 0 0 1 (bs.drop p)).1, p + (getL 0 0 1 (bs.drop p)).2.1.toNat, (getL 0 0 1 (bs.drop p)).2.2)
theorem Bs.drop {l : List Int} (h : Bs l) (n : Nat) : Bs (l.drop n) := fun x hx => h x (List.mem_of_mem_drop hx)

/-- A reader in memory: block r; its bytes are bs. -/
structure Rd (w : World) (r : Nat) (a : Option Addr) (cap : Nat) (bs : List Int) (p : Nat) (e : Int) : Prop where
  blk : Holds w r 68 #[.slice a bs.length cap, .int .i64 p, .int .i64 e]
  sees : SeesE [r] .u8 w.heap.size w a bs
  byt : Bs bs
  len : bs.length ≤ maxLen
  cap : bs.length ≤ cap
  at_ : p ≤ bs.length

/-- The reader has moved; all else that was there is as it was. -/
def Moved (r : Nat) (a : Option Addr) (cap : Nat) (bs : List Int) (q : Nat) (x : Int) (w w' : World) : Prop :=
  Holds w' r 68 #[.slice a bs.length cap, .int .i64 q, .int .i64 x] ∧ BelowE [r] w.heap.size w w'
theorem Rd.moved {w w' : World} {r : Nat} {a : Option Addr} {cap : Nat} {bs : List Int} {p q : Nat} {e x : Int} (h : Rd w r a cap bs p e) (hm : Moved r a cap bs q x w w') (hq : q ≤ bs.length) : Rd w' r a cap bs q x :=
  ⟨hm.1, (h.sees.belowE hm.2).mono hm.2.size, h.byt, h.len, h.cap, hq⟩
theorem Rd.ahead {w w' : World} {r : Nat} {a : Option Addr} {cap : Nat} {bs : List Int} {p : Nat} {e : Int} (h : Rd w r a cap bs p e) (hb : Below w.heap.size w w') : Rd w' r a cap bs p e :=
  ⟨h.blk.below hb h.blk.lt, (h.sees.belowE (.of hb)).mono hb.size, h.byt, h.len, h.cap, h.at_⟩

theorem Rd.drewN {w : World} {r : Nat} {a : Option Addr} {cap : Nat} {bs : List Int} {p : Nat} {e : Int} (h : Rd w r a cap bs p e) (n : Nat) : Rd (w.drewN n) r a cap bs p e :=
  ⟨h.blk.drewN n, h.sees.drewN n, h.byt, h.len, h.cap, h.at_⟩

/-- What a call of a reader tells, and where the reader stands behind it. -/
def Rests (z : Value) (r : Nat) (a : Option Addr) (cap : Nat) (bs : List Int) (p : Nat) (x : Int) (w : World) (e : Ending) (w' : World) : Prop := e = .returned z ∧ Moved r a cap bs p x w w'
/-- A step that comes out, and one that stops. -/
def Steps (v : Value) (r : Nat) (a : Option Addr) (cap : Nat) (bs : List Int) (q : Nat) (w : World) (e : Ending) (w' : World) : Prop := e = .returned v ∧ Moved r a cap bs q 0 w w'
def Stops (x : Int) (r : Nat) (a : Option Addr) (cap : Nat) (bs : List Int) (w : World) (e : Ending) (w' : World) : Prop :=
  e = .panicked [{ v := .iface 79 (.agg #[.int .i64 x]), recovered := false }] ∧ ∃ q : Nat, Moved r a cap bs q 0 w w'
end Go.Proofs.Ytkfgfbdlbiahkaa
