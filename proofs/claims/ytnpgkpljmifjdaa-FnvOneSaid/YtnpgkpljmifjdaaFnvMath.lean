/- Plain mathematics of FNV-1a: no program. -/
import Derived.Test.YtnpgkpljmifjdaaBits
namespace Go.Proofs.Ytnpgkpljmifjdaa
set_option linter.unusedVariables false

/-- The sum, when it has taken a byte; and what it was ahead of that. -/
def fstep (s c : Int) : Int := (((s.toNat ^^^ c.toNat) * 1099511628211 % 18446744073709551616 : Nat) : Int)
def bstep (s c : Int) : Int := (((s.toNat * 14886173955864302971 % 18446744073709551616) ^^^ c.toNat : Nat) : Int)
def fsum (s : Int) (l : List Int) : Int := l.foldl fstep s
def bsum (s : Int) (l : List Int) : Int := l.foldr (fun c s => bstep s c) s

def InU (s : Int) : Prop := 0 ≤ s ∧ s ≤ 18446744073709551615
theorem fstep_in (s c : Int) : InU (fstep s c) := by
  unfold InU fstep
  have := Nat.mod_lt ((s.toNat ^^^ c.toNat) * 1099511628211) (show 0 < 18446744073709551616 by decide)
  omega
theorem xor_lt64 {a b : Nat} (ha : a < 18446744073709551616) (hb : b < 18446744073709551616) : a ^^^ b < 18446744073709551616 :=
  Nat.xor_lt_two_pow (n := 64) ha hb
theorem bstep_in {s c : Int} (hc : InU c) : InU (bstep s c) := by
  unfold InU bstep at *
  have h1 := Nat.mod_lt (s.toNat * 14886173955864302971) (show 0 < 18446744073709551616 by decide)
  have h2 := xor_lt64 h1 (b := c.toNat) (by omega)
  omega
theorem undo_mul (x : Nat) (hx : x < 18446744073709551616) : (x * 1099511628211 % 18446744073709551616) * 14886173955864302971 % 18446744073709551616 = x := by
  rw [Nat.mod_mul_mod, Nat.mul_assoc, show 1099511628211 * 14886173955864302971 = 18446744073709551616 * 887285111055 + 1 from by decide]
  rw [Nat.mul_add, Nat.mul_one, Nat.mul_left_comm, Nat.mul_add_mod]
  exact Nat.mod_eq_of_lt hx
theorem undo_mul' (x : Nat) (hx : x < 18446744073709551616) : (x * 14886173955864302971 % 18446744073709551616) * 1099511628211 % 18446744073709551616 = x := by
  rw [Nat.mod_mul_mod, Nat.mul_assoc, show 14886173955864302971 * 1099511628211 = 18446744073709551616 * 887285111055 + 1 from by decide]
  rw [Nat.mul_add, Nat.mul_one, Nat.mul_left_comm, Nat.mul_add_mod]
  exact Nat.mod_eq_of_lt hx

theorem bstep_fstep {s c : Int} (hs : InU s) (hc : InU c) : bstep (fstep s c) c = s := by
  unfold InU at hs hc
  unfold bstep fstep
  rw [Int.toNat_natCast, undo_mul _ (xor_lt64 (by omega) (by omega)), Nat.xor_assoc, Nat.xor_self, Nat.xor_zero]
  omega
theorem fstep_bstep {s c : Int} (hs : InU s) (hc : InU c) : fstep (bstep s c) c = s := by
  unfold InU at hs hc
  unfold bstep fstep
  rw [Int.toNat_natCast, Nat.xor_assoc, Nat.xor_self, Nat.xor_zero, undo_mul' _ (by omega)]
  omega

theorem fsum_in {s : Int} (hs : InU s) (l : List Int) : InU (fsum s l) := by
  unfold fsum
  induction l generalizing s with
  | nil => exact hs
  | cons c l ih => exact ih (fstep_in s c)
theorem bsum_in {s : Int} (hs : InU s) (l : List Int) (hl : Bs l) : InU (bsum s l) := by
  cases l with
  | nil => exact hs
  | cons c l => exact bstep_in (by have := hl c (by simp); unfold InU; omega)
theorem bs_inU {l : List Int} (h : Bs l) {c : Int} (hc : c ∈ l) : InU c := by have := h c hc; unfold InU; omega
theorem fsum_append (s : Int) (l r : List Int) : fsum s (l ++ r) = fsum (fsum s l) r := by simp [fsum]
theorem fsum_snoc (s : Int) (l : List Int) (c : Int) : fsum s (l ++ [c]) = fstep (fsum s l) c := by simp [fsum]
theorem bsum_snoc (s : Int) (l : List Int) (c : Int) : bsum s (l ++ [c]) = bsum (bstep s c) l := by simp [bsum]
theorem bsum_cons (s : Int) (l : List Int) (c : Int) : bsum s (c :: l) = bstep (bsum s l) c := by simp [bsum]
theorem bsum_fsum {l : List Int} (hl : Bs l) : ∀ {s : Int}, InU s → bsum (fsum s l) l = s := by
  induction l with
  | nil => intro s hs; rfl
  | cons c l ih =>
    intro s hs
    have hc := bs_inU hl (List.mem_cons_self)
    rw [bsum_cons, show fsum s (c :: l) = fsum (fstep s c) l from rfl, ih (fun x hx => hl x (by simp [hx])) (fstep_in s c), bstep_fstep hs hc]
theorem fsum_bsum {l : List Int} (hl : Bs l) : ∀ {s : Int}, InU s → fsum (bsum s l) l = s := by
  induction l with
  | nil => intro s hs; rfl
  | cons c l ih =>
    intro s hs
    have hc := bs_inU hl (List.mem_cons_self)
    have hl' : Bs l := fun x hx => hl x (by simp [hx])
    rw [bsum_cons, show fsum (bstep (bsum s l) c) (c :: l) = fsum (fstep (bstep (bsum s l) c) c) l from rfl, fstep_bstep (bsum_in hs l hl') hc, ih hl' hs]
theorem fsum_inj {l : List Int} (hl : Bs l) {s t : Int} (hs : InU s) (ht : InU t) (h : fsum s l = fsum t l) : s = t := by
  rw [← bsum_fsum hl hs, h, bsum_fsum hl ht]

theorem fstep_inj {t x y : Int} (ht : InU t) (hx : InU x) (hy : InU y) (h : fstep t x = fstep t y) : x = y := by
  unfold InU at *
  unfold fstep at h
  have h1 : (t.toNat ^^^ x.toNat) * 1099511628211 % 18446744073709551616 = (t.toNat ^^^ y.toNat) * 1099511628211 % 18446744073709551616 := Int.ofNat.inj h
  have h2 := undo_mul (t.toNat ^^^ x.toNat) (xor_lt64 (by omega) (by omega))
  rw [h1, undo_mul (t.toNat ^^^ y.toNat) (xor_lt64 (by omega) (by omega))] at h2
  have h3 := congrArg (fun z => t.toNat ^^^ z) h2
  simp only [← Nat.xor_assoc, Nat.xor_self, Nat.zero_xor] at h3
  omega

/-- Unlike in one place only. -/
theorem fsum_set {l : List Int} (hl : Bs l) {i : Nat} (hi : i < l.length) {x : Int} (hx : 0 ≤ x ∧ x ≤ 255) {s : Int} (hs : InU s) : fsum s l = fsum s (l.set i x) ↔ l.getD i 0 = x := by
  have e1 : l = l.take i ++ l.getD i 0 :: l.drop (i + 1) := by
    simp [List.getD, hi]
  have e2 : l.set i x = l.take i ++ x :: l.drop (i + 1) := by
    rw [List.set_eq_take_append_cons_drop, if_pos hi]
  have hd : Bs (l.drop (i + 1)) := fun y hy => hl y (List.mem_of_mem_drop hy)
  have hg := hl.at hi
  generalize l.getD i 0 = y at *
  constructor
  · intro h
    rw [e2] at h
    conv at h => lhs; rw [e1]
    rw [fsum_append, fsum_append] at h
    have ht : InU (fsum s (l.take i)) := fsum_in hs _
    generalize fsum s (l.take i) = t at *
    have h2 : fstep t y = fstep t x := fsum_inj hd (fstep_in _ _) (fstep_in _ _) h
    exact fstep_inj ht (by unfold InU; omega) (by unfold InU; omega) h2
  · intro h
    subst h
    rw [e2]; exact congrArg _ e1
end Go.Proofs.Ytnpgkpljmifjdaa
