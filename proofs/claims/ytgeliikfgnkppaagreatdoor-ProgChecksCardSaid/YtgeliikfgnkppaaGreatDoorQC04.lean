/-
  Words and walks under the law's proof.
-/
import Derived.Lib.ItoaMem
import Derived.Lib.ItoaLen
import Derived.Lib.Strings
import Derived.Test.YtgeliikfgnkppaaGreatDoorRows
import Derived.Lib.SmallJoins
import Derived.Deep.QuietTactic
import Derived.BigQuiet
import Derived.Test.YtgeliikfgnkppaaGreatDoorQC01
import Derived.Test.YtgeliikfgnkppaaGreatDoorQC02
import Derived.Test.YtgeliikfgnkppaaGreatDoorQC03
namespace Go.Proofs.YtgeliikfgnkppaaGreatDoor
open Go.Lib
set_option linter.unusedVariables false
def clip (n : Int) : Int := if 1099511627776 < n then 1099511627776 else if n < -1099511627776 then -1099511627776 else n
theorem clip_in (n : Int) : -1099511627776 ≤ clip n ∧ clip n ≤ 1099511627776 := by unfold clip; split <;> (try split) <;> omega
def infT : List UInt8 := [105, 110, 102]
def ninfT : List UInt8 := [45, 105, 110, 102]
def showV (v : Int) : List UInt8 := if v = 1099511627776 then infT else if v = -1099511627776 then ninfT else itoa v
def isDig (c : UInt8) : Prop := 48 ≤ c.toNat ∧ c.toNat ≤ 57
instance (c : UInt8) : Decidable (isDig c) := by unfold isDig; infer_instance
def val10 (l : List UInt8) : Nat := l.foldl (fun a c => 10 * a + (c.toNat - 48)) 0
theorem val10_snoc (l : List UInt8) (c : UInt8) : val10 (l ++ [c]) = 10 * val10 l + (c.toNat - 48) := by simp [val10]
theorem val10_app_le (l r : List UInt8) : val10 l ≤ val10 (l ++ r) := by
  induction r generalizing l with
  | nil => simp
  | cons c r ih =>
    have h1 := ih (l ++ [c])
    rw [val10_snoc] at h1
    rw [show l ++ c :: r = l ++ [c] ++ r by simp]
    omega
def canon (l : List UInt8) : Prop := l ≠ [] ∧ (∀ c ∈ l, isDig c) ∧ (l.head? = some 48 → l = [48])
instance (l : List UInt8) : Decidable (canon l) := by unfold canon; infer_instance
theorem dig_back {c : UInt8} (h : isDig c) : UInt8.ofNat (48 + (c.toNat - 48)) = c := by
  rw [show 48 + (c.toNat - 48) = c.toNat by have := h.1; omega]
  exact UInt8.ofNat_toNat
theorem dig_of {d : Nat} (h : d < 10) : isDig (UInt8.ofNat (48 + d)) ∧ (UInt8.ofNat (48 + d)).toNat - 48 = d := by
  have e : (UInt8.ofNat (48 + d)).toNat = 48 + d := by
    rw [UInt8.toNat_ofNat']; omega
  unfold isDig
  rw [e]; omega
theorem val10_pos {l : List UInt8} (h0 : l ≠ []) (hd : ∀ c ∈ l, isDig c) (hh : l.head? ≠ some 48) : 0 < val10 l := by
  cases l with
  | nil => exact absurd rfl h0
  | cons c r =>
    have h1 := val10_app_le [c] r
    have hc := hd c (by simp)
    have : c.toNat ≠ 48 := by
      intro e
      apply hh
      simp only [List.head?_cons, Option.some.injEq]
      apply UInt8.toNat_inj.1
      rw [e]; rfl
    have e2 : val10 [c] = c.toNat - 48 := by simp [val10]
    have := hc.1
    rw [show c :: r = [c] ++ r by rfl]
    omega
theorem canon_show {l : List UInt8} (h : canon l) : decDigits (val10 l) = l := by
  suffices H : ∀ (n : Nat) (l : List UInt8), l.length = n → canon l → decDigits (val10 l) = l from H _ l rfl h
  intro n
  induction n with
  | zero => intro l hl hc; exact absurd (List.eq_nil_of_length_eq_zero hl) hc.1
  | succ n ih =>
    intro l hl hc
    obtain ⟨p, c, rfl⟩ : ∃ p c, l = p ++ [c] := ⟨l.dropLast, l.getLast hc.1, (List.dropLast_concat_getLast hc.1).symm⟩
    have hp : p.length = n := by simp at hl; omega
    have hcd : isDig c := hc.2.1 c (by simp)
    have hlt : c.toNat - 48 < 10 := by have := hcd.1; have := hcd.2; omega
    rw [val10_snoc]
    by_cases hpe : p = []
    · subst hpe
      rw [show val10 [] = 0 from rfl, Nat.mul_zero, Nat.zero_add, decDigits, dif_pos hlt, dig_back hcd]
      rfl
    · have hph : p.head? ≠ some 48 := by
        intro e
        have h2 := hc.2.2 (by rw [List.head?_append, e]; rfl)
        have h3 := congrArg List.length h2
        simp at h3
        exact hpe h3
      have hpd : ∀ x ∈ p, isDig x := fun x hx => hc.2.1 x (by simp [hx])
      have hpos := val10_pos hpe hpd hph
      rw [decDigits, dif_neg (by omega), show (10 * val10 p + (c.toNat - 48)) / 10 = val10 p by omega, show (10 * val10 p + (c.toNat - 48)) % 10 = c.toNat - 48 by omega, dig_back hcd]
      rw [ih p hp ⟨hpe, hpd, fun e => absurd e hph⟩]
theorem show_val (u : Nat) : val10 (decDigits u) = u ∧ canon (decDigits u) ∧ (0 < u → (decDigits u).head? ≠ some 48) := by
  induction u using Nat.strongRecOn with
  | ind u ih =>
    by_cases h : u < 10
    · rw [decDigits, dif_pos h]
      have := dig_of h
      refine ⟨by simpa [val10] using this.2, ⟨by simp, by simpa using this.1, ?_⟩, ?_⟩
      · intro e; simp at e; simp [e]
      · intro h0 e
        simp only [List.head?_cons, Option.some.injEq] at e
        rw [e] at this
        simp at this
        omega
    · obtain ⟨h1, h2, h3⟩ := ih (u / 10) (by omega)
      have hd := dig_of (d := u % 10) (by omega)
      rw [decDigits, dif_neg h]
      have hh : (decDigits (u / 10) ++ [UInt8.ofNat (48 + u % 10)]).head? ≠ some 48 := by
        intro e
        rw [List.head?_append] at e
        have h4 := h3 (by omega)
        cases hx : (decDigits (u / 10)).head? with
        | none => rw [List.head?_eq_none_iff] at hx; exact h2.1 hx
        | some x => rw [hx] at e h4; simp at e; exact h4 (by rw [e])
      refine ⟨by rw [val10_snoc, h1, hd.2]; omega, ⟨by simp, ?_, fun e => absurd e hh⟩, fun _ => hh⟩
      intro c hc
      rcases List.mem_append.1 hc with hc | hc
      · exact h2.2.1 c hc
      · rw [List.mem_singleton] at hc; subst hc; exact hd.1
def sizeV (l : List UInt8) : Option Nat := if l = infT then some 1099511627776 else if canon l ∧ val10 l < 1099511627776 then some (val10 l) else none
def parseV (s : List UInt8) : Option Int :=
  if hasPrefix s [45] then (match sizeV (s.drop 1) with | some n => if 0 < n then some (-(n : Int)) else none | none => none)
  else (match sizeV s with | some n => some (n : Int) | none => none)
theorem canon_len {l : List UInt8} (h : canon l) (hl : val10 l < 1099511627776) : l.length ≤ 13 := by
  have h1 : l = decDigits (val10 l) := (canon_show h).symm
  rw [h1, decDigits_length]
  have : ∀ k u, u < 10 ^ (k + 1) → nDigits u ≤ k + 1 := by
    intro k
    induction k with
    | zero => intro u hu; rw [nDigits_small (by omega)]; omega
    | succ k ih =>
      intro u hu
      by_cases h10 : u < 10
      · rw [nDigits_small h10]; omega
      · have := ih (u / 10) (by rw [Nat.pow_succ] at hu; omega)
        rw [nDigits, dif_neg h10]; omega
  have := this 12 (val10 l) (by omega)
  omega
end Go.Proofs.YtgeliikfgnkppaaGreatDoor
namespace Go.Proofs.YtgeliikfgnkppaaGreatDoor
open Go.RowKit
set_option linter.unusedVariables false
theorem clip_any (n : Int) (w : World) : Calls Tryz.prog 116 #[.int .i64 n] w fun e w' => e = .returned (.int .i64 (clip n)) ∧ w = w' := by
  have hf : Hid (clip n = if 1099511627776 < n then 1099511627776 else if n < -1099511627776 then -1099511627776 else n) := Lib.hid rfl
  generalize clip n = F at *
  go_enter Tryz.func116, Tryz.ntmps116
  go_wp2
  all_goals (go_ret; refine ⟨ret_int ?_, rfl⟩; rw [hf.out]; clear hf; grind)
end Go.Proofs.YtgeliikfgnkppaaGreatDoor
namespace Go.Proofs.YtgeliikfgnkppaaGreatDoor
open Go.RowKit
set_option linter.unusedVariables false
def Tab (w : World) : Prop := Lib.TabIs Tryz.prog w "internal/strconv.uint64pow10" .u64 Lib.pow10Tab
theorem globalTab : (Tryz.prog.globalNamed "internal/strconv.uint64pow10").isSome = true := by kernel_rfl
theorem Tab.on {w w' : World} (h : Tab w) (hb : Below w.heap.size w w') : Tab w' := by
  obtain ⟨g, hg⟩ := Option.isSome_iff_exists.1 globalTab
  exact Joins.tab_stays hg h hb (Nat.le_refl _)
theorem below_drewn (w : World) (q : Nat) (os : Array Obj) : Below w.heap.size w (Sort.grow (w.drewN q) os) :=
  ⟨rfl, rfl, rfl, by simp [Sort.grow], fun i hi => by
    show ((w.drewN q).heap ++ os)[i]? = _
    rw [Array.getElem?_append_left (by show i < w.heap.size; omega)]
    rfl⟩
end Go.Proofs.YtgeliikfgnkppaaGreatDoor
namespace Go.Proofs.YtgeliikfgnkppaaGreatDoor
open Go.RowKit
set_option linter.unusedVariables false
def strB (l : List UInt8) : ByteArray := ⟨l.toArray⟩
theorem itoa_any (n : Int) (h0 : -9223372036854775808 ≤ n) (h1 : n ≤ 9223372036854775807) (w : World) (ht : Tab w) : Calls Tryz.prog 117 #[.int .i64 n] w (Gives (.string (strB (Lib.itoa n))) w) := by
  refine (Tryz.strconv_Itoa n h0 h1 w ht).mono ?_
  rintro e w' ⟨rfl, k, os, rfl⟩
  exact ⟨rfl, below_drewn w k os⟩
theorem show_max {v : Int} (h : v = 1099511627776) : showV v = infT := by subst h; decide
theorem show_min {v : Int} (h : v = -1099511627776) : showV v = ninfT := by subst h; decide
theorem show_mid {v : Int} (h : ¬ v = 1099511627776) (h2 : ¬ v = -1099511627776) : showV v = Lib.itoa v := by unfold showV; rw [if_neg h, if_neg h2]
theorem show_any (n : Int) (w : World) (ht : Tab w) : Calls Tryz.prog 104 #[.int .i64 n] w (Gives (.string (strB (showV (clip n)))) w) := by
  have hc := Lib.hid (clip_any n)
  have hi := clip_in n
  generalize clip n = v at *
  have hit := Lib.hid (fun w ht => itoa_any v (by omega) (by omega) w ht)
  by_cases h1 : v = 1099511627776
  · rw [show_max h1]
    go_enter Tryz.func104, Tryz.ntmps104
    go_wp2_with fail
    refine (hc.out _).mono ?_
    rintro e w' ⟨rfl, rfl⟩
    go_wp2
    go_ret
    exact ⟨rfl, Below.refl _ _⟩
  · have d1 : (v == 1099511627776) = false := by simp [h1]
    by_cases h2 : v = -1099511627776
    · rw [show_min h2]
      go_enter Tryz.func104, Tryz.ntmps104
      go_wp2_with fail
      refine (hc.out _).mono ?_
      rintro e w' ⟨rfl, rfl⟩
      go_wp2
      go_ret
      exact ⟨rfl, Below.refl _ _⟩
    · have d2 : (v == -1099511627776) = false := by simp [h2]
      rw [show_mid h1 h2]
      generalize Lib.itoa v = T at *
      go_enter Tryz.func104, Tryz.ntmps104
      go_wp2_with fail
      refine (hc.out _).mono ?_
      rintro e w' ⟨rfl, rfl⟩
      go_wp2_with fail
      refine (hit.out _ ht).mono ?_
      rintro e w' ⟨rfl, hb⟩
      go_wp2
      go_ret
      exact ⟨rfl, hb⟩
theorem strB_size (l : List UInt8) : (strB l).size = l.length := by simp [strB, ByteArray.size]
end Go.Proofs.YtgeliikfgnkppaaGreatDoor
namespace Go.Proofs.YtgeliikfgnkppaaGreatDoor
open Go.RowKit
set_option linter.unusedVariables false
theorem box_below (w : World) (v1 : Array Value) (t1 : TypeId) : Below w.heap.size w (w.alloc (.cells v1 t1)) := (Below.refl _ _).alloc (Nat.le_refl _) _
theorem box2_below (w : World) (v1 v2 : Array Value) (t1 t2 : TypeId) : Below w.heap.size w ((w.alloc (.cells v1 t1)).alloc (.cells v2 t2)) := ((Below.refl _ _).alloc (Nat.le_refl _) _).alloc (by simp) _
structure SL (w : World) (a : Option Addr) (m c : Nat) (l : List Int) : Prop where
  len : m = l.length
  cap : m ≤ c
  max : m ≤ 9223372036854775807
  sees : Sees .i64 w.heap.size w a l
theorem SL.below {w w' : World} {a : Option Addr} {m c : Nat} {l : List Int} (h : SL w a m c l) (hb : Below w.heap.size w w') : SL w' a m c l := ⟨h.len, h.cap, h.max, (h.sees.below hb).mono hb.size⟩
theorem SL.drewN {w : World} {a : Option Addr} {m c : Nat} {l : List Int} (h : SL w a m c l) (n : Nat) : SL (w.drewN n) a m c l := ⟨h.len, h.cap, h.max, h.sees⟩
theorem SL.nil (w : World) : SL w none 0 0 [] := ⟨rfl, Nat.le_refl _, by omega, .inl rfl⟩
theorem sees_num {k : IntKind} {B : Nat} {w : World} {a : Option Addr} {l : List Int} (h : Sees k B w a l) {i : Nat} (hi : i < l.length) : ∃ b off, a = some ⟨b, off, none⟩ ∧ b < B ∧ w.cell? ⟨b, off + i, none⟩ = some (.int k (l.getD i 0)) := by
  rcases h with rfl | ⟨b, off, rfl, hB, hc⟩
  · cases hi
  · exact ⟨b, off, rfl, hB, hc i hi⟩
end Go.Proofs.YtgeliikfgnkppaaGreatDoor
namespace Go.Proofs.YtgeliikfgnkppaaGreatDoor
open Go.RowKit
set_option linter.unusedVariables false
set_option linter.unusedSimpArgs false
def nmV (l : List ByteArray) (x : Int) : ByteArray := l.getD (x.toNat - 1) e0
def vT (c : Int) : ByteArray := strB (showV (clip c))
theorem decDigits_len {u : Nat} (h : u < 1099511627776) : (Lib.decDigits u).length ≤ 13 := canon_len (show_val u).2.1 (by rw [(show_val u).1]; exact h)
theorem vT_size (c : Int) : (vT c).size ≤ 14 := by
  unfold vT
  rw [strB_size]
  have h := clip_in c
  generalize clip c = v at *
  unfold showV
  split
  · decide
  · split
    · decide
    · unfold Lib.itoa
      split
      · have := decDigits_len (u := v.natAbs) (by omega)
        simp; omega
      · have := decDigits_len (u := v.toNat) (by omega)
        omega
def letT (l : List ByteArray) (x y c : Int) : ByteArray :=
  if y = 0 then (nmV l x ++ (⟨#[32, 58, 61, 32]⟩ : ByteArray)) ++ vT c else if c = 0 then (nmV l x ++ (⟨#[32, 58, 61, 32]⟩ : ByteArray)) ++ nmV l y else if c < 0 then (((nmV l x ++ (⟨#[32, 58, 61, 32]⟩ : ByteArray)) ++ nmV l y) ++ (⟨#[32, 45, 32]⟩ : ByteArray)) ++ vT (-c) else (((nmV l x ++ (⟨#[32, 58, 61, 32]⟩ : ByteArray)) ++ nmV l y) ++ (⟨#[32, 43, 32]⟩ : ByteArray)) ++ vT c
def anyT (l : List ByteArray) (x c d : Int) : ByteArray := ((((((nmV l x ++ (⟨#[32, 58, 61, 32]⟩ : ByteArray)) ++ (⟨#[97, 110, 121]⟩ : ByteArray)) ++ (⟨#[32, 91]⟩ : ByteArray)) ++ vT c) ++ (⟨#[44, 32]⟩ : ByteArray)) ++ vT d) ++ (⟨#[93]⟩ : ByteArray)
def diffT (l : List ByteArray) (x y : Int) : ByteArray := if y = 0 then nmV l x else if x = 0 then (⟨#[45]⟩ : ByteArray) ++ nmV l y else (nmV l x ++ (⟨#[32, 45, 32]⟩ : ByteArray)) ++ nmV l y
def limT (word : ByteArray) (l : List ByteArray) (x y c : Int) : ByteArray := (((word ++ (⟨#[32]⟩ : ByteArray)) ++ diffT l x y) ++ (⟨#[32, 60, 61, 32]⟩ : ByteArray)) ++ vT c
theorem name_at {w : World} {a : Option Addr} {n c : Nat} {l : List ByteArray} (h : TT w a n c l) {x : Int} (h1 : 1 ≤ x) (h2 : x ≤ (n : Int)) : ∃ (i b off : Nat), x = (i : Int) + 1 ∧ i < n ∧ a = some ⟨b, off, none⟩ ∧ b < w.heap.size ∧ w.cell? ⟨b, off + i, none⟩ = some (.string (nmV l x)) := by
  obtain ⟨i, hi⟩ := Int.eq_ofNat_of_zero_le (show 0 ≤ x - 1 by omega)
  have hil : i < l.length := by rw [← h.len]; omega
  obtain ⟨b, off, ha, hb, hc⟩ := h.at_ hil
  refine ⟨i, b, off, by omega, by omega, ha, hb, ?_⟩
  rw [hc i hil]
  unfold nmV
  rw [show x.toNat - 1 = i by omega]
theorem name_sz {l : List ByteArray} (h : ∀ s ∈ l, s.size ≤ 32) (x : Int) : (nmV l x).size ≤ 32 := by
  unfold nmV
  by_cases hx : x.toNat - 1 < l.length
  · exact h _ (by simp [List.getD, hx])
  · rw [show l.getD (x.toNat - 1) e0 = e0 by simp [List.getD, hx]]; decide
theorem diff_sz {l : List ByteArray} (h : ∀ s ∈ l, s.size ≤ 32) (x y : Int) : (diffT l x y).size ≤ 67 := by
  have h1 := name_sz h x
  have h2 := name_sz h y
  unfold diffT
  split
  · omega
  · split
    · rw [ByteArray.size_append]; show 1 + _ ≤ _; omega
    · rw [ByteArray.size_append, ByteArray.size_append]; show _ + 3 + _ ≤ _; omega
set_option maxRecDepth 100000 in
set_option maxHeartbeats 2000000 in
theorem difference_any (a : Option Addr) (n cp : Nat) (l : List ByteArray) (hl : ∀ s ∈ l, s.size ≤ 32) (k x y c d : Int) (hx0 : 0 ≤ x) (hx : x ≤ (n : Int)) (hy0 : 0 ≤ y) (hy : y ≤ (n : Int)) (hxy : x ≠ y) (w : World) (h : TT w a n cp l) : Calls Tryz.prog 118 #[.slice a n cp, .agg #[.int .i64 k, .int .i64 x, .int .i64 y, .int .i64 c, .int .i64 d]] w (Gives (.string (diffT l x y)) w) := by
  have hB := Lib.hid (box_below w #[.int .i64 k, .int .i64 x, .int .i64 y, .int .i64 c, .int .i64 d] 38)
  have s1 := name_sz hl x
  have s2 := name_sz hl y
  have hn : (n : Int) ≤ 9223372036854775807 := by have := h.cap; have := h.max; unfold maxLen at this; omega
  by_cases h1 : y = 0
  · have hR : Hid (diffT l x y = nmV l x) := Lib.hid (by unfold diffT; rw [if_pos h1])
    obtain ⟨i, b, off, rfl, hi, rfl, hb, x0⟩ := name_at h (by omega) hx
    subst h1
    have hii : (i : Int) < (n : Int) := by omega
    generalize nmV l ((i : Int) + 1) = s at *
    generalize diffT l ((i : Int) + 1) 0 = R at *
    clear h hl
    go_enter Tryz.func118, Tryz.ntmps118
    go_wp2
    go_ret
    rw [hR.out]
    exact ⟨rfl, hB.out⟩
  · by_cases h2 : x = 0
    · have hR : Hid (diffT l x y = (⟨#[45]⟩ : ByteArray) ++ nmV l y) := Lib.hid (by unfold diffT; rw [if_neg h1, if_pos h2])
      obtain ⟨i, b, off, rfl, hi, rfl, hb, x0⟩ := name_at h (by omega) hy
      subst h2
      have hii : (i : Int) < (n : Int) := by omega
      have h1' : ¬ ((i : Int) + 1 = 0) := by omega
      generalize nmV l ((i : Int) + 1) = s at *
      generalize diffT l 0 ((i : Int) + 1) = R at *
      have z1 : ¬ 9223372036854775807 < 1 + s.size := by omega
      clear h hl
      go_enter Tryz.func118, Tryz.ntmps118
      go_wp2
      go_ret
      rw [hR.out]
      exact ⟨rfl, hB.out⟩
    · have hR : Hid (diffT l x y = (nmV l x ++ (⟨#[32, 45, 32]⟩ : ByteArray)) ++ nmV l y) := Lib.hid (by unfold diffT; rw [if_neg h1, if_neg h2])
      obtain ⟨i, b, off, rfl, hi, rfl, hb, x0⟩ := name_at h (by omega) hx
      obtain ⟨j, b2, off2, rfl, hj, e2, hb2, y0⟩ := name_at h (by omega) hy
      injection e2 with e2
      injection e2 with e3 e4
      subst e3 e4
      have hii : (i : Int) < (n : Int) := by omega
      have hji : (j : Int) < (n : Int) := by omega
      have h1' : ¬ ((j : Int) + 1 = 0) := by omega
      have h2' : ¬ ((i : Int) + 1 = 0) := by omega
      generalize nmV l ((i : Int) + 1) = s at *
      generalize nmV l ((j : Int) + 1) = u at *
      generalize diffT l ((i : Int) + 1) ((j : Int) + 1) = R at *
      have z1 : ¬ 9223372036854775807 < s.size + 3 := by omega
      have z2 : ¬ 9223372036854775807 < s.size + 3 + u.size := by omega
      have w1 : IntKind.i64.wrap (i : Int) = i := by rw [IntKind.wrap_i64]; omega
      have w2 : IntKind.i64.wrap (j : Int) = j := by rw [IntKind.wrap_i64]; omega
      have n1 : 0 ≤ (i : Int) := by omega
      have n2 : 0 ≤ (j : Int) := by omega
      clear h hl hxy
      go_enter Tryz.func118, Tryz.ntmps118
      go_wp2
      go_quiet (fail)
      go_wp2
      go_ret
      rw [hR.out]
      exact ⟨rfl, Below.drewN hB.out nq⟩
set_option maxRecDepth 100000 in
set_option maxHeartbeats 2000000 in
theorem showDiff_any (word : ByteArray) (hw : word.size ≤ 5) (a : Option Addr) (n cp : Nat) (l : List ByteArray) (hl : ∀ s ∈ l, s.size ≤ 32) (k x y c d : Int) (hx0 : 0 ≤ x) (hx : x ≤ (n : Int)) (hy0 : 0 ≤ y) (hy : y ≤ (n : Int)) (hxy : x ≠ y) (w : World) (ht : Tab w) (h : TT w a n cp l) : Calls Tryz.prog 105 #[.string word, .slice a n cp, .agg #[.int .i64 k, .int .i64 x, .int .i64 y, .int .i64 c, .int .i64 d]] w (Gives (.string (limT word l x y c)) w) := by
  have hR : Hid (limT word l x y c = ((word ++ (⟨#[32]⟩ : ByteArray)) ++ diffT l x y ++ (⟨#[32, 60, 61, 32]⟩ : ByteArray)) ++ vT c) := Lib.hid rfl
  have q1 := Lib.hid (fun W hW => difference_any a n cp l hl k x y c d hx0 hx hy0 hy hxy W hW)
  have q2 := Lib.hid (fun W (hW : Tab W) => show_any c W hW)
  have s1 := diff_sz hl x y
  have s2 := vT_size c
  have hv : Hid (strB (showV (clip c)) = vT c) := Lib.hid rfl
  rw [hv.out] at q2
  clear hv
  generalize limT word l x y c = R at *
  generalize diffT l x y = u at *
  generalize vT c = v at *
  have z0 : ¬ 9223372036854775807 < word.size + 1 := by omega
  have z1 : ¬ 9223372036854775807 < word.size + 1 + u.size := by omega
  have z2 : ¬ 9223372036854775807 < word.size + 1 + u.size + 4 := by omega
  have z3 : ¬ 9223372036854775807 < word.size + 1 + u.size + 4 + v.size := by omega
  obtain ⟨W1, hW1⟩ : ∃ W1, W1 = w.alloc (.cells #[.int .i64 k, .int .i64 x, .int .i64 y, .int .i64 c, .int .i64 d] 38) := ⟨_, rfl⟩
  have BL := Lib.hid (show Below w.heap.size w W1 by rw [hW1]; exact box_below _ _ _)
  have HZ : Hid (Holds W1 w.heap.size 38 #[.int .i64 k, .int .i64 x, .int .i64 y, .int .i64 c, .int .i64 d]) := Lib.hid (by rw [hW1]; exact Holds.new w _ _)
  have T := Lib.hid (ht.on BL.out)
  have V := Lib.hid (h.below BL.out)
  have hW1' := Lib.hid hW1
  clear h ht hl hW1 hxy hx0 hx hy0 hy
  go_enter Tryz.func105, Tryz.ntmps105
  go_wp2
  rw [← hW1'.out]
  clear hW1'
  have g0 : ∀ W, Below W1.heap.size W1 W → W.cell? ⟨w.heap.size, 0, none⟩ = some (.int .i64 k) := fun W hW => (HZ.out.below hW HZ.out.lt).cell 0
  have g1 : ∀ W, Below W1.heap.size W1 W → W.cell? ⟨w.heap.size, 1, none⟩ = some (.int .i64 x) := fun W hW => (HZ.out.below hW HZ.out.lt).cell 1
  have g2 : ∀ W, Below W1.heap.size W1 W → W.cell? ⟨w.heap.size, 2, none⟩ = some (.int .i64 y) := fun W hW => (HZ.out.below hW HZ.out.lt).cell 2
  have g3 : ∀ W, Below W1.heap.size W1 W → W.cell? ⟨w.heap.size, 3, none⟩ = some (.int .i64 c) := fun W hW => (HZ.out.below hW HZ.out.lt).cell 3
  have g4 : ∀ W, Below W1.heap.size W1 W → W.cell? ⟨w.heap.size, 4, none⟩ = some (.int .i64 d) := fun W hW => (HZ.out.below hW HZ.out.lt).cell 4
  refine wp_drawn_on (fun W => Below W1.heap.size W1 W) (by kernel_rfl) ((Below.refl _ _).drew) (fun hHeld => ?_)
  refine wpAnyH_take (i := 0) (oi := { dst := some 7, op := Go.Op.move (Go.Operand.tmp 0), type := 9, pos := "stmt.go:60", after := #[], guard := none }) (v := ?v1) rfl (by kernel_rfl) (by kernel_rfl) (by kernel_rfl) (fun _ _ _ h => h) (Or.inl ⟨by kernel_rfl, ?h1⟩) (by assumption) ?r1
  case h1 => (intro w hSw; (try dsimp only at hSw); go_simp; try with_reducible rfl)
  try simp only [Act.put, List.setIfInBounds_toArray, List.set_cons_zero, List.set_cons_succ]
  refine wpAnyH_take (i := 1) (oi := { dst := some 8, op := Go.Op.binOp Go.BinOp.add 9 (Go.Operand.tmp 7) (Go.Operand.const (Go.Value.string { data := #[32] })) 9, type := 9, pos := "stmt.go:60", after := #[{ on := 0, ground := Go.Ground.data }], guard := none }) (v := ?v2) rfl (by kernel_rfl) (by kernel_rfl) (by kernel_rfl) (fun _ _ _ h => h) (Or.inl ⟨by kernel_rfl, ?h2⟩) (by assumption) ?r2
  case h2 => (intro w hSw; (try dsimp only at hSw); go_simp; try with_reducible rfl)
  try simp only [Act.put, List.setIfInBounds_toArray, List.set_cons_zero, List.set_cons_succ]
  refine wpAnyH_take (i := 2) (oi := { dst := some 9, op := Go.Op.move (Go.Operand.tmp 1), type := 22, pos := "stmt.go:60", after := #[], guard := none }) (v := ?v3) rfl (by kernel_rfl) (by kernel_rfl) (by kernel_rfl) (fun _ _ _ h => h) (Or.inl ⟨by kernel_rfl, ?h3⟩) (by assumption) ?r3
  case h3 => (intro w hSw; (try dsimp only at hSw); go_simp; try with_reducible rfl)
  try simp only [Act.put, List.setIfInBounds_toArray, List.set_cons_zero, List.set_cons_succ]
  refine wpAnyH_take (i := 3) (oi := { dst := some 10, op := Go.Op.load 38 (Go.Operand.tmp 5), type := 38, pos := "stmt.go:60", after := #[], guard := none }) (v := ?v4) rfl (by kernel_rfl) (by kernel_rfl) (by kernel_rfl) (fun _ _ _ h => h) (Or.inl ⟨by kernel_rfl, ?h4⟩) (by assumption) ?r4
  case h4 => (intro w hSw; (try dsimp only at hSw); go_simp; try with_reducible rfl)
  try simp only [Act.put, List.setIfInBounds_toArray, List.set_cons_zero, List.set_cons_succ]
  refine wpAnyH_take (i := 7) (oi := { dst := some 14, op := Go.Op.fieldAddr 38 (Go.Operand.tmp 5) 3, type := 0, pos := "stmt.go:60", after := #[], guard := none }) (v := ?v5) rfl (by kernel_rfl) (by kernel_rfl) (by kernel_rfl) (fun _ _ _ h => h) (Or.inl ⟨by kernel_rfl, ?h5⟩) (by assumption) ?r5
  case h5 => (intro w hSw; (try dsimp only at hSw); go_simp; try with_reducible rfl)
  try simp only [Act.put, List.setIfInBounds_toArray, List.set_cons_zero, List.set_cons_succ]
  refine wpAnyH_take (i := 8) (oi := { dst := some 15, op := Go.Op.load 3 (Go.Operand.tmp 14), type := 3, pos := "stmt.go:60", after := #[{ on := 7, ground := Go.Ground.data }], guard := none }) (v := ?v6) rfl (by kernel_rfl) (by kernel_rfl) (by kernel_rfl) (fun _ _ _ h => h) (Or.inl ⟨by kernel_rfl, ?h6⟩) (by assumption) ?r6
  case h6 => (intro w hSw; (try dsimp only at hSw); go_simp; try with_reducible rfl)
  try simp only [Act.put, List.setIfInBounds_toArray, List.set_cons_zero, List.set_cons_succ]
  refine wpAnyH_ready (rs := [4]) (by kernel_rfl) (by simp) ?_
  refine AllReadyH.cons (o := { dst := some 11, op := Go.Op.call { callee := Go.Callee.value (Go.Operand.func 118), args := #[Go.Operand.tmp 9, Go.Operand.tmp 10], argTypes := #[22, 38] }, type := 9, pos := "stmt.go:60", after := #[{ on := 2, ground := Go.Ground.data }, { on := 3, ground := Go.Ground.data }], guard := none }) rfl (fun K hK => ?_) AllReadyH.nil
  go_simp
  with_reducible refine (q1.out _ (V.out.below hHeld)).mono ?_
  rintro e t4 ⟨rfl, b4⟩
  go_simp
  refine hK.out _ _ (hHeld.trans (b4.mono hHeld.size)) (fun hHeld => ?_)
  clear hK K
  try simp only [Act.put, List.setIfInBounds_toArray, List.set_cons_zero, List.set_cons_succ]
  refine wpAnyH_take (i := 5) (oi := { dst := some 12, op := Go.Op.binOp Go.BinOp.add 9 (Go.Operand.tmp 8) (Go.Operand.tmp 11) 9, type := 9, pos := "stmt.go:60", after := #[{ on := 1, ground := Go.Ground.data }, { on := 4, ground := Go.Ground.data }], guard := none }) (v := ?v7) rfl (by kernel_rfl) (by kernel_rfl) (by kernel_rfl) (fun _ _ _ h => h) (Or.inl ⟨by kernel_rfl, ?h7⟩) (by assumption) ?r7
  case h7 => (intro w hSw; (try dsimp only at hSw); go_simp; try with_reducible rfl)
  try simp only [Act.put, List.setIfInBounds_toArray, List.set_cons_zero, List.set_cons_succ]
  refine wpAnyH_take (i := 6) (oi := { dst := some 13, op := Go.Op.binOp Go.BinOp.add 9 (Go.Operand.tmp 12) (Go.Operand.const (Go.Value.string { data := #[32, 60, 61, 32] })) 9, type := 9, pos := "stmt.go:60", after := #[{ on := 5, ground := Go.Ground.data }], guard := none }) (v := ?v8) rfl (by kernel_rfl) (by kernel_rfl) (by kernel_rfl) (fun _ _ _ h => h) (Or.inl ⟨by kernel_rfl, ?h8⟩) (by assumption) ?r8
  case h8 => (intro w hSw; (try dsimp only at hSw); go_simp; try with_reducible rfl)
  try simp only [Act.put, List.setIfInBounds_toArray, List.set_cons_zero, List.set_cons_succ]
  refine wpAnyH_ready (rs := [9]) (by kernel_rfl) (by simp) ?_
  refine AllReadyH.cons (o := { dst := some 16, op := Go.Op.call { callee := Go.Callee.value (Go.Operand.func 104), args := #[Go.Operand.tmp 15], argTypes := #[3] }, type := 9, pos := "stmt.go:60", after := #[{ on := 8, ground := Go.Ground.data }, { on := 4, ground := Go.Ground.chain }], guard := none }) rfl (fun K hK => ?_) AllReadyH.nil
  go_simp
  with_reducible refine (q2.out _ (T.out.on hHeld)).mono ?_
  rintro e t9 ⟨rfl, b9⟩
  go_simp
  refine hK.out _ _ (hHeld.trans (b9.mono hHeld.size)) (fun hHeld => ?_)
  clear hK K
  try simp only [Act.put, List.setIfInBounds_toArray, List.set_cons_zero, List.set_cons_succ]
  refine wpAnyH_take (i := 10) (oi := { dst := some 17, op := Go.Op.binOp Go.BinOp.add 9 (Go.Operand.tmp 13) (Go.Operand.tmp 16) 9, type := 9, pos := "stmt.go:60", after := #[{ on := 6, ground := Go.Ground.data }, { on := 9, ground := Go.Ground.data }], guard := none }) (v := ?v9) rfl (by kernel_rfl) (by kernel_rfl) (by kernel_rfl) (fun _ _ _ h => h) (Or.inl ⟨by kernel_rfl, ?h9⟩) (by assumption) ?r9
  case h9 => (intro w hSw; (try dsimp only at hSw); go_simp; try with_reducible rfl)
  try simp only [Act.put, List.setIfInBounds_toArray, List.set_cons_zero, List.set_cons_succ]
  refine wpAnyH_take (i := 11) (oi := { dst := some 6, op := Go.Op.assign (Go.Operand.tmp 17), type := 9, pos := "stmt.go:60", after := #[{ on := 10, ground := Go.Ground.data }, { on := 9, ground := Go.Ground.chain }, { on := 0, ground := Go.Ground.phase }, { on := 1, ground := Go.Ground.phase }, { on := 2, ground := Go.Ground.phase }, { on := 3, ground := Go.Ground.phase }, { on := 4, ground := Go.Ground.phase }, { on := 5, ground := Go.Ground.phase }, { on := 6, ground := Go.Ground.phase }, { on := 7, ground := Go.Ground.phase }, { on := 8, ground := Go.Ground.phase }, { on := 9, ground := Go.Ground.phase }, { on := 10, ground := Go.Ground.phase }], guard := none }) (v := ?v10) rfl (by kernel_rfl) (by kernel_rfl) (by kernel_rfl) (fun _ _ _ h => h) (Or.inl ⟨by kernel_rfl, ?h10⟩) (by assumption) ?r10
  case h10 => (intro w hSw; (try dsimp only at hSw); go_simp; try with_reducible rfl)
  try simp only [Act.put, List.setIfInBounds_toArray, List.set_cons_zero, List.set_cons_succ]
  refine wpAnyH_done (by kernel_rfl) ?_ _
  go_wp2
  go_ret
  rw [hR.out]
  exact ⟨rfl, BL.out.trans (hHeld.mono BL.out.size)⟩
set_option maxRecDepth 100000 in
theorem showLimit_any (a : Option Addr) (n cp : Nat) (l : List ByteArray) (hl : ∀ s ∈ l, s.size ≤ 32) (k x y c d : Int) (hx0 : 0 ≤ x) (hx : x ≤ (n : Int)) (hy0 : 0 ≤ y) (hy : y ≤ (n : Int)) (hxy : x ≠ y) (w : World) (ht : Tab w) (h : TT w a n cp l) : Calls Tryz.prog 76 #[.slice a n cp, .agg #[.int .i64 k, .int .i64 x, .int .i64 y, .int .i64 c, .int .i64 d]] w (Gives (.string (limT ⟨#[108, 105, 109, 105, 116]⟩ l x y c)) w) := by
  obtain ⟨W1, hW1⟩ : ∃ W1, W1 = w.alloc (.cells #[.int .i64 k, .int .i64 x, .int .i64 y, .int .i64 c, .int .i64 d] 38) := ⟨_, rfl⟩
  have BL := Lib.hid (show Below w.heap.size w W1 by rw [hW1]; exact box_below _ _ _)
  have q := Lib.hid (showDiff_any ⟨#[108, 105, 109, 105, 116]⟩ (by decide) a n cp l hl k x y c d hx0 hx hy0 hy hxy W1 (ht.on BL.out) (h.below BL.out))
  have hW1' := Lib.hid hW1
  clear h ht hl hW1 hxy hx0 hx hy0 hy
  generalize limT ⟨#[108, 105, 109, 105, 116]⟩ l x y c = R at *
  go_enter Tryz.func76, Tryz.ntmps76
  go_wp2_with fail
  rw [← hW1'.out]
  refine q.out.mono ?_
  rintro e w1 ⟨rfl, b1⟩
  go_wp2
  go_ret
  exact ⟨rfl, BL.out.trans (b1.mono BL.out.size)⟩
set_option maxRecDepth 100000 in
theorem showCheck_any (a : Option Addr) (n cp : Nat) (l : List ByteArray) (hl : ∀ s ∈ l, s.size ≤ 32) (k x y c d : Int) (hx0 : 0 ≤ x) (hx : x ≤ (n : Int)) (hy0 : 0 ≤ y) (hy : y ≤ (n : Int)) (hxy : x ≠ y) (w : World) (ht : Tab w) (h : TT w a n cp l) : Calls Tryz.prog 77 #[.slice a n cp, .agg #[.int .i64 k, .int .i64 x, .int .i64 y, .int .i64 c, .int .i64 d]] w (Gives (.string (limT ⟨#[99, 104, 101, 99, 107]⟩ l x y c)) w) := by
  obtain ⟨W1, hW1⟩ : ∃ W1, W1 = w.alloc (.cells #[.int .i64 k, .int .i64 x, .int .i64 y, .int .i64 c, .int .i64 d] 38) := ⟨_, rfl⟩
  have BL := Lib.hid (show Below w.heap.size w W1 by rw [hW1]; exact box_below _ _ _)
  have q := Lib.hid (showDiff_any ⟨#[99, 104, 101, 99, 107]⟩ (by decide) a n cp l hl k x y c d hx0 hx hy0 hy hxy W1 (ht.on BL.out) (h.below BL.out))
  have hW1' := Lib.hid hW1
  clear h ht hl hW1 hxy hx0 hx hy0 hy
  generalize limT ⟨#[99, 104, 101, 99, 107]⟩ l x y c = R at *
  go_enter Tryz.func77, Tryz.ntmps77
  go_wp2_with fail
  rw [← hW1'.out]
  refine q.out.mono ?_
  rintro e w1 ⟨rfl, b1⟩
  go_wp2
  go_ret
  exact ⟨rfl, BL.out.trans (b1.mono BL.out.size)⟩
set_option maxRecDepth 100000 in
theorem showSkip_any (a : Option Addr) (n cp : Nat) (k x y c d : Int) (w : World) : Calls Tryz.prog 70 #[.slice a n cp, .agg #[.int .i64 k, .int .i64 x, .int .i64 y, .int .i64 c, .int .i64 d]] w (Gives (.string ⟨#[115, 107, 105, 112]⟩) w) := by
  have hB := Lib.hid (box_below w #[.int .i64 k, .int .i64 x, .int .i64 y, .int .i64 c, .int .i64 d] 38)
  go_enter Tryz.func70, Tryz.ntmps70
  go_wp2
  go_ret
  exact ⟨rfl, hB.out⟩
set_option maxRecDepth 100000 in
set_option maxHeartbeats 4000000 in
theorem showAny_any (a : Option Addr) (n cp : Nat) (l : List ByteArray) (hl : ∀ s ∈ l, s.size ≤ 32) (k x y c d : Int) (hx0 : 1 ≤ x) (hx : x ≤ (n : Int)) (w : World) (ht : Tab w) (h : TT w a n cp l) : Calls Tryz.prog 74 #[.slice a n cp, .agg #[.int .i64 k, .int .i64 x, .int .i64 y, .int .i64 c, .int .i64 d]] w (Gives (.string (anyT l x c d)) w) := by
  have hR : Hid (anyT l x c d = ((((((nmV l x ++ (⟨#[32, 58, 61, 32]⟩ : ByteArray)) ++ (⟨#[97, 110, 121]⟩ : ByteArray)) ++ (⟨#[32, 91]⟩ : ByteArray)) ++ vT c) ++ (⟨#[44, 32]⟩ : ByteArray)) ++ vT d) ++ (⟨#[93]⟩ : ByteArray)) := Lib.hid rfl
  have q1 := Lib.hid (fun W (hW : Tab W) => show_any c W hW)
  have q2 := Lib.hid (fun W (hW : Tab W) => show_any d W hW)
  have hv : Hid (strB (showV (clip c)) = vT c) := Lib.hid rfl
  have hv2 : Hid (strB (showV (clip d)) = vT d) := Lib.hid rfl
  rw [hv.out] at q1
  rw [hv2.out] at q2
  have s0 := name_sz hl x
  have s1 := vT_size c
  have s2 := vT_size d
  have hn : (n : Int) ≤ 9223372036854775807 := by have := h.cap; have := h.max; unfold maxLen at this; omega
  clear hv hv2
  obtain ⟨i, b, off, rfl, hi, rfl, -, -⟩ := name_at h hx0 hx
  obtain ⟨W1, hW1⟩ : ∃ W1, W1 = w.alloc (.cells #[.int .i64 k, .int .i64 ((i : Int) + 1), .int .i64 y, .int .i64 c, .int .i64 d] 38) := ⟨_, rfl⟩
  have BL := Lib.hid (show Below w.heap.size w W1 by rw [hW1]; exact box_below _ _ _)
  have HZ : Hid (Holds W1 w.heap.size 38 #[.int .i64 k, .int .i64 ((i : Int) + 1), .int .i64 y, .int .i64 c, .int .i64 d]) := Lib.hid (by rw [hW1]; exact Holds.new w _ _)
  have T := Lib.hid (ht.on BL.out)
  have V := Lib.hid (h.below BL.out)
  have hW1' := Lib.hid hW1
  obtain ⟨b', off', hbe, hbl, x0⟩ : ∃ b' off', (some ⟨b, off, none⟩ : Option Addr) = some ⟨b', off', none⟩ ∧ b' < W1.heap.size ∧ W1.cell? ⟨b', off' + i, none⟩ = some (.string (nmV l ((i : Int) + 1))) := by
    obtain ⟨i2, b2, o2, e1, e2, e3, e4, e5⟩ := name_at V.out hx0 hx
    obtain rfl : i = i2 := by omega
    exact ⟨b2, o2, e3, e4, e5⟩
  injection hbe with hbe
  injection hbe with hb1 hb2
  subst hb1 hb2
  have hii : (i : Int) < (n : Int) := by omega
  generalize nmV l ((i : Int) + 1) = s at *
  generalize anyT l ((i : Int) + 1) c d = R at *
  generalize vT c = v at *
  generalize vT d = u at *
  have z0 : ¬ 9223372036854775807 < s.size + 4 := by omega
  have z1 : ¬ 9223372036854775807 < s.size + 4 + 3 := by omega
  have z2 : ¬ 9223372036854775807 < s.size + 4 + 3 + 2 := by omega
  have z3 : ¬ 9223372036854775807 < s.size + 4 + 3 + 2 + v.size := by omega
  have z4 : ¬ 9223372036854775807 < s.size + 4 + 3 + 2 + v.size + 2 := by omega
  have z5 : ¬ 9223372036854775807 < s.size + 4 + 3 + 2 + v.size + 2 + u.size := by omega
  have z6 : ¬ 9223372036854775807 < s.size + 4 + 3 + 2 + v.size + 2 + u.size + 1 := by omega
  have w1 : IntKind.i64.wrap (i : Int) = i := by rw [IntKind.wrap_i64]; omega
  have n1 : 0 ≤ (i : Int) := by omega
  have gx : ∀ W, Below W1.heap.size W1 W → W.cell? ⟨b, off + i, none⟩ = some (.string s) := fun W hW => (hW.cell (p := ⟨b, off + i, none⟩) hbl).trans x0
  clear h ht hl hW1 hx0 hx x0
  go_enter Tryz.func74, Tryz.ntmps74
  go_wp2
  rw [← hW1'.out]
  clear hW1'
  have g0 : ∀ W, Below W1.heap.size W1 W → W.cell? ⟨w.heap.size, 0, none⟩ = some (.int .i64 k) := fun W hW => (HZ.out.below hW HZ.out.lt).cell 0
  have g1 : ∀ W, Below W1.heap.size W1 W → W.cell? ⟨w.heap.size, 1, none⟩ = some (.int .i64 ((i : Int) + 1)) := fun W hW => (HZ.out.below hW HZ.out.lt).cell 1
  have g2 : ∀ W, Below W1.heap.size W1 W → W.cell? ⟨w.heap.size, 2, none⟩ = some (.int .i64 y) := fun W hW => (HZ.out.below hW HZ.out.lt).cell 2
  have g3 : ∀ W, Below W1.heap.size W1 W → W.cell? ⟨w.heap.size, 3, none⟩ = some (.int .i64 c) := fun W hW => (HZ.out.below hW HZ.out.lt).cell 3
  have g4 : ∀ W, Below W1.heap.size W1 W → W.cell? ⟨w.heap.size, 4, none⟩ = some (.int .i64 d) := fun W hW => (HZ.out.below hW HZ.out.lt).cell 4
  refine wp_drawn_on (fun W => Below W1.heap.size W1 W) (by kernel_rfl) ((Below.refl _ _).drew) (fun hHeld => ?_)
  refine wpAnyH_take (i := 0) (oi := { dst := some 5, op := Go.Op.move (Go.Operand.tmp 0), type := 22, pos := "stmt.go:51", after := #[], guard := none }) (v := ?v11) rfl (by kernel_rfl) (by kernel_rfl) (by kernel_rfl) (fun _ _ _ h => h) (Or.inl ⟨by kernel_rfl, ?h11⟩) (by assumption) ?r11
  case h11 => (intro w hSw; (try dsimp only at hSw); go_simp; try with_reducible rfl)
  try simp only [Act.put, List.setIfInBounds_toArray, List.set_cons_zero, List.set_cons_succ]
  refine wpAnyH_take (i := 1) (oi := { dst := some 6, op := Go.Op.fieldAddr 38 (Go.Operand.tmp 3) 1, type := 0, pos := "stmt.go:51", after := #[], guard := none }) (v := ?v12) rfl (by kernel_rfl) (by kernel_rfl) (by kernel_rfl) (fun _ _ _ h => h) (Or.inl ⟨by kernel_rfl, ?h12⟩) (by assumption) ?r12
  case h12 => (intro w hSw; (try dsimp only at hSw); go_simp; try with_reducible rfl)
  try simp only [Act.put, List.setIfInBounds_toArray, List.set_cons_zero, List.set_cons_succ]
  refine wpAnyH_take (i := 2) (oi := { dst := some 7, op := Go.Op.load 3 (Go.Operand.tmp 6), type := 3, pos := "stmt.go:51", after := #[{ on := 1, ground := Go.Ground.data }], guard := none }) (v := ?v13) rfl (by kernel_rfl) (by kernel_rfl) (by kernel_rfl) (fun _ _ _ h => h) (Or.inl ⟨by kernel_rfl, ?h13⟩) (by assumption) ?r13
  case h13 => (intro w hSw; (try dsimp only at hSw); go_simp; try with_reducible rfl)
  try simp only [Act.put, List.setIfInBounds_toArray, List.set_cons_zero, List.set_cons_succ]
  refine wpAnyH_take (i := 3) (oi := { dst := some 8, op := Go.Op.binOp Go.BinOp.sub 3 (Go.Operand.tmp 7) (Go.Operand.const (Go.Value.int Go.IntKind.i64 1)) 3, type := 3, pos := "stmt.go:51", after := #[{ on := 2, ground := Go.Ground.data }], guard := none }) (v := ?v14) rfl (by kernel_rfl) (by kernel_rfl) (by kernel_rfl) (fun _ _ _ h => h) (Or.inl ⟨by kernel_rfl, ?h14⟩) (by assumption) ?r14
  case h14 => (intro w hSw; (try dsimp only at hSw); go_simp; try with_reducible rfl)
  try simp only [Act.put, List.setIfInBounds_toArray, List.set_cons_zero, List.set_cons_succ]
  refine wpAnyH_take (i := 4) (oi := { dst := some 9, op := Go.Op.indexAddr 22 (Go.Operand.tmp 5) (Go.Operand.tmp 8), type := 0, pos := "stmt.go:51", after := #[{ on := 0, ground := Go.Ground.data }, { on := 3, ground := Go.Ground.data }], guard := none }) (v := ?v15) rfl (by kernel_rfl) (by kernel_rfl) (by kernel_rfl) (fun _ _ _ h => h) (Or.inl ⟨by kernel_rfl, ?h15⟩) (by assumption) ?r15
  case h15 => (intro w hSw; (try dsimp only at hSw); go_simp; try with_reducible rfl)
  try simp only [Act.put, List.setIfInBounds_toArray, List.set_cons_zero, List.set_cons_succ]
  refine wpAnyH_take (i := 5) (oi := { dst := some 10, op := Go.Op.load 9 (Go.Operand.tmp 9), type := 9, pos := "stmt.go:51", after := #[{ on := 4, ground := Go.Ground.data }], guard := none }) (v := ?v16) rfl (by kernel_rfl) (by kernel_rfl) (by kernel_rfl) (fun _ _ _ h => h) (Or.inl ⟨by kernel_rfl, ?h16⟩) (by assumption) ?r16
  case h16 => (intro w hSw; (try dsimp only at hSw); go_simp; try with_reducible rfl)
  try simp only [Act.put, List.setIfInBounds_toArray, List.set_cons_zero, List.set_cons_succ]
  refine wpAnyH_take (i := 6) (oi := { dst := some 11, op := Go.Op.binOp Go.BinOp.add 9 (Go.Operand.tmp 10) (Go.Operand.const (Go.Value.string { data := #[32, 58, 61, 32] })) 9, type := 9, pos := "stmt.go:51", after := #[{ on := 5, ground := Go.Ground.data }], guard := none }) (v := ?v17) rfl (by kernel_rfl) (by kernel_rfl) (by kernel_rfl) (fun _ _ _ h => h) (Or.inl ⟨by kernel_rfl, ?h17⟩) (by assumption) ?r17
  case h17 => (intro w hSw; (try dsimp only at hSw); go_simp; try with_reducible rfl)
  try simp only [Act.put, List.setIfInBounds_toArray, List.set_cons_zero, List.set_cons_succ]
  refine wpAnyH_take (i := 7) (oi := { dst := some 12, op := Go.Op.binOp Go.BinOp.add 9 (Go.Operand.tmp 11) (Go.Operand.const (Go.Value.string { data := #[97, 110, 121] })) 9, type := 9, pos := "stmt.go:51", after := #[{ on := 6, ground := Go.Ground.data }], guard := none }) (v := ?v18) rfl (by kernel_rfl) (by kernel_rfl) (by kernel_rfl) (fun _ _ _ h => h) (Or.inl ⟨by kernel_rfl, ?h18⟩) (by assumption) ?r18
  case h18 => (intro w hSw; (try dsimp only at hSw); go_simp; try with_reducible rfl)
  try simp only [Act.put, List.setIfInBounds_toArray, List.set_cons_zero, List.set_cons_succ]
  refine wpAnyH_take (i := 8) (oi := { dst := some 13, op := Go.Op.binOp Go.BinOp.add 9 (Go.Operand.tmp 12) (Go.Operand.const (Go.Value.string { data := #[32, 91] })) 9, type := 9, pos := "stmt.go:51", after := #[{ on := 7, ground := Go.Ground.data }], guard := none }) (v := ?v19) rfl (by kernel_rfl) (by kernel_rfl) (by kernel_rfl) (fun _ _ _ h => h) (Or.inl ⟨by kernel_rfl, ?h19⟩) (by assumption) ?r19
  case h19 => (intro w hSw; (try dsimp only at hSw); go_simp; try with_reducible rfl)
  try simp only [Act.put, List.setIfInBounds_toArray, List.set_cons_zero, List.set_cons_succ]
  refine wpAnyH_take (i := 9) (oi := { dst := some 14, op := Go.Op.fieldAddr 38 (Go.Operand.tmp 3) 3, type := 0, pos := "stmt.go:51", after := #[], guard := none }) (v := ?v20) rfl (by kernel_rfl) (by kernel_rfl) (by kernel_rfl) (fun _ _ _ h => h) (Or.inl ⟨by kernel_rfl, ?h20⟩) (by assumption) ?r20
  case h20 => (intro w hSw; (try dsimp only at hSw); go_simp; try with_reducible rfl)
  try simp only [Act.put, List.setIfInBounds_toArray, List.set_cons_zero, List.set_cons_succ]
  refine wpAnyH_take (i := 10) (oi := { dst := some 15, op := Go.Op.load 3 (Go.Operand.tmp 14), type := 3, pos := "stmt.go:51", after := #[{ on := 9, ground := Go.Ground.data }], guard := none }) (v := ?v21) rfl (by kernel_rfl) (by kernel_rfl) (by kernel_rfl) (fun _ _ _ h => h) (Or.inl ⟨by kernel_rfl, ?h21⟩) (by assumption) ?r21
  case h21 => (intro w hSw; (try dsimp only at hSw); go_simp; try with_reducible rfl)
  try simp only [Act.put, List.setIfInBounds_toArray, List.set_cons_zero, List.set_cons_succ]
  refine wpAnyH_take (i := 14) (oi := { dst := some 19, op := Go.Op.fieldAddr 38 (Go.Operand.tmp 3) 4, type := 0, pos := "stmt.go:51", after := #[], guard := none }) (v := ?v22) rfl (by kernel_rfl) (by kernel_rfl) (by kernel_rfl) (fun _ _ _ h => h) (Or.inl ⟨by kernel_rfl, ?h22⟩) (by assumption) ?r22
  case h22 => (intro w hSw; (try dsimp only at hSw); go_simp; try with_reducible rfl)
  try simp only [Act.put, List.setIfInBounds_toArray, List.set_cons_zero, List.set_cons_succ]
  refine wpAnyH_take (i := 15) (oi := { dst := some 20, op := Go.Op.load 3 (Go.Operand.tmp 19), type := 3, pos := "stmt.go:51", after := #[{ on := 14, ground := Go.Ground.data }], guard := none }) (v := ?v23) rfl (by kernel_rfl) (by kernel_rfl) (by kernel_rfl) (fun _ _ _ h => h) (Or.inl ⟨by kernel_rfl, ?h23⟩) (by assumption) ?r23
  case h23 => (intro w hSw; (try dsimp only at hSw); go_simp; try with_reducible rfl)
  try simp only [Act.put, List.setIfInBounds_toArray, List.set_cons_zero, List.set_cons_succ]
  refine wpAnyH_ready (rs := [11]) (by kernel_rfl) (by simp) ?_
  refine AllReadyH.cons (o := { dst := some 16, op := Go.Op.call { callee := Go.Callee.value (Go.Operand.func 104), args := #[Go.Operand.tmp 15], argTypes := #[3] }, type := 9, pos := "stmt.go:51", after := #[{ on := 10, ground := Go.Ground.data }], guard := none }) rfl (fun K hK => ?_) AllReadyH.nil
  go_simp
  with_reducible refine (q1.out _ (T.out.on hHeld)).mono ?_
  rintro e t11 ⟨rfl, b11⟩
  go_simp
  refine hK.out _ _ (hHeld.trans (b11.mono hHeld.size)) (fun hHeld => ?_)
  clear hK K
  try simp only [Act.put, List.setIfInBounds_toArray, List.set_cons_zero, List.set_cons_succ]
  refine wpAnyH_take (i := 12) (oi := { dst := some 17, op := Go.Op.binOp Go.BinOp.add 9 (Go.Operand.tmp 13) (Go.Operand.tmp 16) 9, type := 9, pos := "stmt.go:51", after := #[{ on := 8, ground := Go.Ground.data }, { on := 11, ground := Go.Ground.data }], guard := none }) (v := ?v24) rfl (by kernel_rfl) (by kernel_rfl) (by kernel_rfl) (fun _ _ _ h => h) (Or.inl ⟨by kernel_rfl, ?h24⟩) (by assumption) ?r24
  case h24 => (intro w hSw; (try dsimp only at hSw); go_simp; try with_reducible rfl)
  try simp only [Act.put, List.setIfInBounds_toArray, List.set_cons_zero, List.set_cons_succ]
  refine wpAnyH_take (i := 13) (oi := { dst := some 18, op := Go.Op.binOp Go.BinOp.add 9 (Go.Operand.tmp 17) (Go.Operand.const (Go.Value.string { data := #[44, 32] })) 9, type := 9, pos := "stmt.go:51", after := #[{ on := 12, ground := Go.Ground.data }], guard := none }) (v := ?v25) rfl (by kernel_rfl) (by kernel_rfl) (by kernel_rfl) (fun _ _ _ h => h) (Or.inl ⟨by kernel_rfl, ?h25⟩) (by assumption) ?r25
  case h25 => (intro w hSw; (try dsimp only at hSw); go_simp; try with_reducible rfl)
  try simp only [Act.put, List.setIfInBounds_toArray, List.set_cons_zero, List.set_cons_succ]
  refine wpAnyH_ready (rs := [16]) (by kernel_rfl) (by simp) ?_
  refine AllReadyH.cons (o := { dst := some 21, op := Go.Op.call { callee := Go.Callee.value (Go.Operand.func 104), args := #[Go.Operand.tmp 20], argTypes := #[3] }, type := 9, pos := "stmt.go:51", after := #[{ on := 15, ground := Go.Ground.data }, { on := 11, ground := Go.Ground.chain }], guard := none }) rfl (fun K hK => ?_) AllReadyH.nil
  go_simp
  with_reducible refine (q2.out _ (T.out.on hHeld)).mono ?_
  rintro e t16 ⟨rfl, b16⟩
  go_simp
  refine hK.out _ _ (hHeld.trans (b16.mono hHeld.size)) (fun hHeld => ?_)
  clear hK K
  try simp only [Act.put, List.setIfInBounds_toArray, List.set_cons_zero, List.set_cons_succ]
  refine wpAnyH_take (i := 17) (oi := { dst := some 22, op := Go.Op.binOp Go.BinOp.add 9 (Go.Operand.tmp 18) (Go.Operand.tmp 21) 9, type := 9, pos := "stmt.go:51", after := #[{ on := 13, ground := Go.Ground.data }, { on := 16, ground := Go.Ground.data }], guard := none }) (v := ?v26) rfl (by kernel_rfl) (by kernel_rfl) (by kernel_rfl) (fun _ _ _ h => h) (Or.inl ⟨by kernel_rfl, ?h26⟩) (by assumption) ?r26
  case h26 => (intro w hSw; (try dsimp only at hSw); go_simp; try with_reducible rfl)
  try simp only [Act.put, List.setIfInBounds_toArray, List.set_cons_zero, List.set_cons_succ]
  refine wpAnyH_take (i := 18) (oi := { dst := some 23, op := Go.Op.binOp Go.BinOp.add 9 (Go.Operand.tmp 22) (Go.Operand.const (Go.Value.string { data := #[93] })) 9, type := 9, pos := "stmt.go:51", after := #[{ on := 17, ground := Go.Ground.data }], guard := none }) (v := ?v27) rfl (by kernel_rfl) (by kernel_rfl) (by kernel_rfl) (fun _ _ _ h => h) (Or.inl ⟨by kernel_rfl, ?h27⟩) (by assumption) ?r27
  case h27 => (intro w hSw; (try dsimp only at hSw); go_simp; try with_reducible rfl)
  try simp only [Act.put, List.setIfInBounds_toArray, List.set_cons_zero, List.set_cons_succ]
  refine wpAnyH_take (i := 19) (oi := { dst := some 4, op := Go.Op.assign (Go.Operand.tmp 23), type := 9, pos := "stmt.go:51", after := #[{ on := 18, ground := Go.Ground.data }, { on := 16, ground := Go.Ground.chain }, { on := 0, ground := Go.Ground.phase }, { on := 1, ground := Go.Ground.phase }, { on := 2, ground := Go.Ground.phase }, { on := 3, ground := Go.Ground.phase }, { on := 4, ground := Go.Ground.phase }, { on := 5, ground := Go.Ground.phase }, { on := 6, ground := Go.Ground.phase }, { on := 7, ground := Go.Ground.phase }, { on := 8, ground := Go.Ground.phase }, { on := 9, ground := Go.Ground.phase }, { on := 10, ground := Go.Ground.phase }, { on := 11, ground := Go.Ground.phase }, { on := 12, ground := Go.Ground.phase }, { on := 13, ground := Go.Ground.phase }, { on := 14, ground := Go.Ground.phase }, { on := 15, ground := Go.Ground.phase }, { on := 16, ground := Go.Ground.phase }, { on := 17, ground := Go.Ground.phase }, { on := 18, ground := Go.Ground.phase }], guard := none }) (v := ?v28) rfl (by kernel_rfl) (by kernel_rfl) (by kernel_rfl) (fun _ _ _ h => h) (Or.inl ⟨by kernel_rfl, ?h28⟩) (by assumption) ?r28
  case h28 => (intro w hSw; (try dsimp only at hSw); go_simp; try with_reducible rfl)
  try simp only [Act.put, List.setIfInBounds_toArray, List.set_cons_zero, List.set_cons_succ]
  refine wpAnyH_done (by kernel_rfl) ?_ _
  go_wp2
  go_ret
  rw [hR.out]
  exact ⟨rfl, BL.out.trans (hHeld.mono BL.out.size)⟩
set_option maxRecDepth 100000 in
set_option maxHeartbeats 8000000 in
theorem showLet_any (a : Option Addr) (n cp : Nat) (l : List ByteArray) (hl : ∀ s ∈ l, s.size ≤ 32) (k x y c d : Int) (hx0 : 1 ≤ x) (hx : x ≤ (n : Int)) (hy0 : 0 ≤ y) (hy : y ≤ (n : Int)) (hc : -9223372036854775807 ≤ c ∧ c ≤ 9223372036854775807) (w : World) (ht : Tab w) (h : TT w a n cp l) : Calls Tryz.prog 72 #[.slice a n cp, .agg #[.int .i64 k, .int .i64 x, .int .i64 y, .int .i64 c, .int .i64 d]] w (Gives (.string (letT l x y c)) w) := by
  have q1 := Lib.hid (fun W (hW : Tab W) => show_any c W hW)
  have q2 := Lib.hid (fun W (hW : Tab W) => show_any (-c) W hW)
  have hv : Hid (strB (showV (clip c)) = vT c) := Lib.hid rfl
  have hv2 : Hid (strB (showV (clip (-c))) = vT (-c)) := Lib.hid rfl
  rw [hv.out] at q1
  rw [hv2.out] at q2
  have s0 := name_sz hl x
  have s1 := vT_size c
  have s2 := vT_size (-c)
  have s3 := name_sz hl y
  have hn : (n : Int) ≤ 9223372036854775807 := by have := h.cap; have := h.max; unfold maxLen at this; omega
  have hL : Hid (letT l x y c = if y = 0 then (nmV l x ++ (⟨#[32, 58, 61, 32]⟩ : ByteArray)) ++ vT c else if c = 0 then (nmV l x ++ (⟨#[32, 58, 61, 32]⟩ : ByteArray)) ++ nmV l y else if c < 0 then (((nmV l x ++ (⟨#[32, 58, 61, 32]⟩ : ByteArray)) ++ nmV l y) ++ (⟨#[32, 45, 32]⟩ : ByteArray)) ++ vT (-c) else (((nmV l x ++ (⟨#[32, 58, 61, 32]⟩ : ByteArray)) ++ nmV l y) ++ (⟨#[32, 43, 32]⟩ : ByteArray)) ++ vT c) := Lib.hid rfl
  clear hv hv2
  obtain ⟨i, b, off, rfl, hi, rfl, hbw, x0w⟩ := name_at h hx0 hx
  obtain ⟨W1, hW1⟩ : ∃ W1, W1 = w.alloc (.cells #[.int .i64 k, .int .i64 ((i : Int) + 1), .int .i64 y, .int .i64 c, .int .i64 d] 38) := ⟨_, rfl⟩
  have BL := Lib.hid (show Below w.heap.size w W1 by rw [hW1]; exact box_below _ _ _)
  have HZ : Hid (Holds W1 w.heap.size 38 #[.int .i64 k, .int .i64 ((i : Int) + 1), .int .i64 y, .int .i64 c, .int .i64 d]) := Lib.hid (by rw [hW1]; exact Holds.new w _ _)
  have T := Lib.hid (ht.on BL.out)
  have V := Lib.hid (h.below BL.out)
  have hW1' := Lib.hid hW1
  obtain ⟨hbl, x0⟩ : b < W1.heap.size ∧ W1.cell? ⟨b, off + i, none⟩ = some (.string (nmV l ((i : Int) + 1))) := by
    obtain ⟨i2, b2, o2, e1, e2, e3, e4, e5⟩ := name_at V.out hx0 hx
    obtain rfl : i = i2 := by omega
    injection e3 with e3
    injection e3 with e3 e6
    subst e3 e6
    exact ⟨e4, e5⟩
  have hii : (i : Int) < (n : Int) := by omega
  have w1 : IntKind.i64.wrap (i : Int) = i := by rw [IntKind.wrap_i64]; omega
  have n1 : 0 ≤ (i : Int) := by omega
  have w3 : IntKind.i64.wrap (-c) = -c := by rw [IntKind.wrap_i64]; omega
  have gx : ∀ W, Below W1.heap.size W1 W → W.cell? ⟨b, off + i, none⟩ = some (.string (nmV l ((i : Int) + 1))) := fun W hW => (hW.cell (p := ⟨b, off + i, none⟩) hbl).trans x0
  generalize nmV l ((i : Int) + 1) = s at *
  generalize vT c = v at *
  generalize vT (-c) = u at *
  have z0 : ¬ 9223372036854775807 < s.size + 4 := by omega
  have z1 : ¬ 9223372036854775807 < s.size + 4 + v.size := by omega
  by_cases hy1 : y = 0
  · have hR : Hid (letT l ((i : Int) + 1) y c = (s ++ (⟨#[32, 58, 61, 32]⟩ : ByteArray)) ++ v) := Lib.hid (by rw [hL.out, if_pos hy1])
    have q := Lib.hid (q1.out W1 T.out)
    subst hy1
    generalize letT l ((i : Int) + 1) 0 c = R at *
    have k0 := HZ.out.cell 0
    have k1 := HZ.out.cell 1
    have k2 := HZ.out.cell 2
    have k3 := HZ.out.cell 3
    clear hL h ht hl hW1 hx0 hx gx q1 q2
    go_enter Tryz.func72, Tryz.ntmps72
    go_wp2_with fail
    rw [← hW1'.out]
    refine q.out.mono ?_
    rintro e w2 ⟨rfl, b2⟩
    clear k0 k1 k2 k3 x0 x0w q
    go_wp2
    go_ret
    rw [hR.out]
    exact ⟨rfl, BL.out.trans (b2.mono BL.out.size)⟩
  obtain ⟨j, bj, oj, rfl, hj, ej, hbj, y0⟩ := name_at V.out (by omega) hy
  have y0w : w.cell? ⟨b, off + j, none⟩ = some (.string (nmV l ((j : Int) + 1))) := by
    obtain ⟨j2, b2, o2, e1, e2, e3, e4, e5⟩ := name_at h (by omega) hy
    obtain rfl : j = j2 := by omega
    injection e3 with e3
    injection e3 with e3 e6
    subst e3 e6
    exact e5
  injection ej with ej
  injection ej with ej1 ej2
  subst ej1 ej2
  have hji : (j : Int) < (n : Int) := by omega
  have w2 : IntKind.i64.wrap (j : Int) = j := by rw [IntKind.wrap_i64]; omega
  have n2 : 0 ≤ (j : Int) := by omega
  have hy1' : ¬ ((j : Int) + 1 = 0) := by omega
  have gy : ∀ W, Below W1.heap.size W1 W → W.cell? ⟨b, off + j, none⟩ = some (.string (nmV l ((j : Int) + 1))) := fun W hW => (hW.cell (p := ⟨b, off + j, none⟩) hbj).trans y0
  generalize nmV l ((j : Int) + 1) = r at *
  have z2 : ¬ 9223372036854775807 < s.size + 4 + r.size := by omega
  have z3 : ¬ 9223372036854775807 < s.size + 4 + r.size + 3 := by omega
  have z4 : ¬ 9223372036854775807 < s.size + 4 + r.size + 3 + v.size := by omega
  have z5 : ¬ 9223372036854775807 < s.size + 4 + r.size + 3 + u.size := by omega
  have hL2 : Hid (letT l ((i : Int) + 1) ((j : Int) + 1) c = if c = 0 then (s ++ (⟨#[32, 58, 61, 32]⟩ : ByteArray)) ++ r else if c < 0 then (((s ++ (⟨#[32, 58, 61, 32]⟩ : ByteArray)) ++ r) ++ (⟨#[32, 45, 32]⟩ : ByteArray)) ++ u else (((s ++ (⟨#[32, 58, 61, 32]⟩ : ByteArray)) ++ r) ++ (⟨#[32, 43, 32]⟩ : ByteArray)) ++ v) := Lib.hid (by rw [hL.out, if_neg hy1])
  clear hL hy1
  generalize letT l ((i : Int) + 1) ((j : Int) + 1) c = R at *
  by_cases hc0 : c = 0
  · have hR : Hid (R = (s ++ (⟨#[32, 58, 61, 32]⟩ : ByteArray)) ++ r) := Lib.hid (by rw [hL2.out, if_pos hc0])
    subst hc0
    have k0 := HZ.out.cell 0
    have k1 := HZ.out.cell 1
    have k2 := HZ.out.cell 2
    have k3 := HZ.out.cell 3
    clear hL2 h ht hl hW1 hx0 hx gx gy q1 q2
    go_enter Tryz.func72, Tryz.ntmps72
    go_wp2
    go_ret
    rw [hR.out, ← hW1'.out]
    exact ⟨rfl, BL.out⟩
  by_cases hcn : c < 0
  · have hR : Hid (R = (((s ++ (⟨#[32, 58, 61, 32]⟩ : ByteArray)) ++ r) ++ (⟨#[32, 45, 32]⟩ : ByteArray)) ++ u) := Lib.hid (by rw [hL2.out, if_neg hc0, if_pos hcn])
    have k0 := HZ.out.cell 0
    have k1 := HZ.out.cell 1
    have k2 := HZ.out.cell 2
    have k3 := HZ.out.cell 3
    clear hL2 h ht hl hW1 hx0 hx
    go_enter Tryz.func72, Tryz.ntmps72
    go_wp2
    rw [← hW1'.out]
    clear hW1' k0 k1 k2 k3 x0 y0 x0w y0w
    have g0 : ∀ W, Below W1.heap.size W1 W → W.cell? ⟨w.heap.size, 0, none⟩ = some (.int .i64 k) := fun W hW => (HZ.out.below hW HZ.out.lt).cell 0
    have g1 : ∀ W, Below W1.heap.size W1 W → W.cell? ⟨w.heap.size, 1, none⟩ = some (.int .i64 ((i : Int) + 1)) := fun W hW => (HZ.out.below hW HZ.out.lt).cell 1
    have g2 : ∀ W, Below W1.heap.size W1 W → W.cell? ⟨w.heap.size, 2, none⟩ = some (.int .i64 ((j : Int) + 1)) := fun W hW => (HZ.out.below hW HZ.out.lt).cell 2
    have g3 : ∀ W, Below W1.heap.size W1 W → W.cell? ⟨w.heap.size, 3, none⟩ = some (.int .i64 c) := fun W hW => (HZ.out.below hW HZ.out.lt).cell 3
    refine wp_drawn_on (fun W => Below W1.heap.size W1 W) (by kernel_rfl) ((Below.refl _ _).drew) (fun hHeld => ?_)
    refine wpAnyH_take (i := 0) (oi := { dst := some 51, op := Go.Op.move (Go.Operand.tmp 5), type := 9, pos := "stmt.go:44", after := #[], guard := none }) (v := ?v29) rfl (by kernel_rfl) (by kernel_rfl) (by kernel_rfl) (fun _ _ _ h => h) (Or.inl ⟨by kernel_rfl, ?h29⟩) (by assumption) ?r29
    case h29 => (intro w hSw; (try dsimp only at hSw); go_simp; try with_reducible rfl)
    try simp only [Act.put, List.setIfInBounds_toArray, List.set_cons_zero, List.set_cons_succ]
    refine wpAnyH_take (i := 1) (oi := { dst := some 52, op := Go.Op.move (Go.Operand.tmp 0), type := 22, pos := "stmt.go:44", after := #[], guard := none }) (v := ?v30) rfl (by kernel_rfl) (by kernel_rfl) (by kernel_rfl) (fun _ _ _ h => h) (Or.inl ⟨by kernel_rfl, ?h30⟩) (by assumption) ?r30
    case h30 => (intro w hSw; (try dsimp only at hSw); go_simp; try with_reducible rfl)
    try simp only [Act.put, List.setIfInBounds_toArray, List.set_cons_zero, List.set_cons_succ]
    refine wpAnyH_take (i := 2) (oi := { dst := some 53, op := Go.Op.fieldAddr 38 (Go.Operand.tmp 3) 2, type := 0, pos := "stmt.go:44", after := #[], guard := none }) (v := ?v31) rfl (by kernel_rfl) (by kernel_rfl) (by kernel_rfl) (fun _ _ _ h => h) (Or.inl ⟨by kernel_rfl, ?h31⟩) (by assumption) ?r31
    case h31 => (intro w hSw; (try dsimp only at hSw); go_simp; try with_reducible rfl)
    try simp only [Act.put, List.setIfInBounds_toArray, List.set_cons_zero, List.set_cons_succ]
    refine wpAnyH_take (i := 3) (oi := { dst := some 54, op := Go.Op.load 3 (Go.Operand.tmp 53), type := 3, pos := "stmt.go:44", after := #[{ on := 2, ground := Go.Ground.data }], guard := none }) (v := ?v32) rfl (by kernel_rfl) (by kernel_rfl) (by kernel_rfl) (fun _ _ _ h => h) (Or.inl ⟨by kernel_rfl, ?h32⟩) (by assumption) ?r32
    case h32 => (intro w hSw; (try dsimp only at hSw); go_simp; try with_reducible rfl)
    try simp only [Act.put, List.setIfInBounds_toArray, List.set_cons_zero, List.set_cons_succ]
    refine wpAnyH_take (i := 4) (oi := { dst := some 55, op := Go.Op.binOp Go.BinOp.sub 3 (Go.Operand.tmp 54) (Go.Operand.const (Go.Value.int Go.IntKind.i64 1)) 3, type := 3, pos := "stmt.go:44", after := #[{ on := 3, ground := Go.Ground.data }], guard := none }) (v := ?v33) rfl (by kernel_rfl) (by kernel_rfl) (by kernel_rfl) (fun _ _ _ h => h) (Or.inl ⟨by kernel_rfl, ?h33⟩) (by assumption) ?r33
    case h33 => (intro w hSw; (try dsimp only at hSw); go_simp; try with_reducible rfl)
    try simp only [Act.put, List.setIfInBounds_toArray, List.set_cons_zero, List.set_cons_succ]
    refine wpAnyH_take (i := 5) (oi := { dst := some 56, op := Go.Op.indexAddr 22 (Go.Operand.tmp 52) (Go.Operand.tmp 55), type := 0, pos := "stmt.go:44", after := #[{ on := 1, ground := Go.Ground.data }, { on := 4, ground := Go.Ground.data }], guard := none }) (v := ?v34) rfl (by kernel_rfl) (by kernel_rfl) (by kernel_rfl) (fun _ _ _ h => h) (Or.inl ⟨by kernel_rfl, ?h34⟩) (by assumption) ?r34
    case h34 => (intro w hSw; (try dsimp only at hSw); go_simp; try with_reducible rfl)
    try simp only [Act.put, List.setIfInBounds_toArray, List.set_cons_zero, List.set_cons_succ]
    refine wpAnyH_take (i := 6) (oi := { dst := some 57, op := Go.Op.load 9 (Go.Operand.tmp 56), type := 9, pos := "stmt.go:44", after := #[{ on := 5, ground := Go.Ground.data }], guard := none }) (v := ?v35) rfl (by kernel_rfl) (by kernel_rfl) (by kernel_rfl) (fun _ _ _ h => h) (Or.inl ⟨by kernel_rfl, ?h35⟩) (by assumption) ?r35
    case h35 => (intro w hSw; (try dsimp only at hSw); go_simp; try with_reducible rfl)
    try simp only [Act.put, List.setIfInBounds_toArray, List.set_cons_zero, List.set_cons_succ]
    refine wpAnyH_take (i := 7) (oi := { dst := some 58, op := Go.Op.binOp Go.BinOp.add 9 (Go.Operand.tmp 51) (Go.Operand.tmp 57) 9, type := 9, pos := "stmt.go:44", after := #[{ on := 0, ground := Go.Ground.data }, { on := 6, ground := Go.Ground.data }], guard := none }) (v := ?v36) rfl (by kernel_rfl) (by kernel_rfl) (by kernel_rfl) (fun _ _ _ h => h) (Or.inl ⟨by kernel_rfl, ?h36⟩) (by assumption) ?r36
    case h36 => (intro w hSw; (try dsimp only at hSw); go_simp; try with_reducible rfl)
    try simp only [Act.put, List.setIfInBounds_toArray, List.set_cons_zero, List.set_cons_succ]
    refine wpAnyH_take (i := 8) (oi := { dst := some 59, op := Go.Op.binOp Go.BinOp.add 9 (Go.Operand.tmp 58) (Go.Operand.const (Go.Value.string { data := #[32, 45, 32] })) 9, type := 9, pos := "stmt.go:44", after := #[{ on := 7, ground := Go.Ground.data }], guard := none }) (v := ?v37) rfl (by kernel_rfl) (by kernel_rfl) (by kernel_rfl) (fun _ _ _ h => h) (Or.inl ⟨by kernel_rfl, ?h37⟩) (by assumption) ?r37
    case h37 => (intro w hSw; (try dsimp only at hSw); go_simp; try with_reducible rfl)
    try simp only [Act.put, List.setIfInBounds_toArray, List.set_cons_zero, List.set_cons_succ]
    refine wpAnyH_take (i := 9) (oi := { dst := some 60, op := Go.Op.fieldAddr 38 (Go.Operand.tmp 3) 3, type := 0, pos := "stmt.go:44", after := #[], guard := none }) (v := ?v38) rfl (by kernel_rfl) (by kernel_rfl) (by kernel_rfl) (fun _ _ _ h => h) (Or.inl ⟨by kernel_rfl, ?h38⟩) (by assumption) ?r38
    case h38 => (intro w hSw; (try dsimp only at hSw); go_simp; try with_reducible rfl)
    try simp only [Act.put, List.setIfInBounds_toArray, List.set_cons_zero, List.set_cons_succ]
    refine wpAnyH_take (i := 10) (oi := { dst := some 61, op := Go.Op.load 3 (Go.Operand.tmp 60), type := 3, pos := "stmt.go:44", after := #[{ on := 9, ground := Go.Ground.data }], guard := none }) (v := ?v39) rfl (by kernel_rfl) (by kernel_rfl) (by kernel_rfl) (fun _ _ _ h => h) (Or.inl ⟨by kernel_rfl, ?h39⟩) (by assumption) ?r39
    case h39 => (intro w hSw; (try dsimp only at hSw); go_simp; try with_reducible rfl)
    try simp only [Act.put, List.setIfInBounds_toArray, List.set_cons_zero, List.set_cons_succ]
    refine wpAnyH_take (i := 11) (oi := { dst := some 62, op := Go.Op.unOp Go.UnOp.neg 3 (Go.Operand.tmp 61), type := 3, pos := "stmt.go:44", after := #[{ on := 10, ground := Go.Ground.data }], guard := none }) (v := ?v40) rfl (by kernel_rfl) (by kernel_rfl) (by kernel_rfl) (fun _ _ _ h => h) (Or.inl ⟨by kernel_rfl, ?h40⟩) (by assumption) ?r40
    case h40 => (intro w hSw; (try dsimp only at hSw); go_simp; try with_reducible rfl)
    try simp only [Act.put, List.setIfInBounds_toArray, List.set_cons_zero, List.set_cons_succ]
    refine wpAnyH_ready (rs := [12]) (by kernel_rfl) (by simp) ?_
    refine AllReadyH.cons (o := { dst := some 63, op := Go.Op.call { callee := Go.Callee.value (Go.Operand.func 104), args := #[Go.Operand.tmp 62], argTypes := #[3] }, type := 9, pos := "stmt.go:44", after := #[{ on := 11, ground := Go.Ground.data }], guard := none }) rfl (fun K hK => ?_) AllReadyH.nil
    go_simp
    with_reducible refine (q2.out _ (T.out.on hHeld)).mono ?_
    rintro e t12 ⟨rfl, b12⟩
    go_simp
    refine hK.out _ _ (hHeld.trans (b12.mono hHeld.size)) (fun hHeld => ?_)
    clear hK K
    try simp only [Act.put, List.setIfInBounds_toArray, List.set_cons_zero, List.set_cons_succ]
    refine wpAnyH_take (i := 13) (oi := { dst := some 64, op := Go.Op.binOp Go.BinOp.add 9 (Go.Operand.tmp 59) (Go.Operand.tmp 63) 9, type := 9, pos := "stmt.go:44", after := #[{ on := 8, ground := Go.Ground.data }, { on := 12, ground := Go.Ground.data }], guard := none }) (v := ?v41) rfl (by kernel_rfl) (by kernel_rfl) (by kernel_rfl) (fun _ _ _ h => h) (Or.inl ⟨by kernel_rfl, ?h41⟩) (by assumption) ?r41
    case h41 => (intro w hSw; (try dsimp only at hSw); go_simp; try with_reducible rfl)
    try simp only [Act.put, List.setIfInBounds_toArray, List.set_cons_zero, List.set_cons_succ]
    refine wpAnyH_take (i := 14) (oi := { dst := some 4, op := Go.Op.assign (Go.Operand.tmp 64), type := 9, pos := "stmt.go:44", after := #[{ on := 13, ground := Go.Ground.data }, { on := 12, ground := Go.Ground.chain }, { on := 0, ground := Go.Ground.phase }, { on := 1, ground := Go.Ground.phase }, { on := 2, ground := Go.Ground.phase }, { on := 3, ground := Go.Ground.phase }, { on := 4, ground := Go.Ground.phase }, { on := 5, ground := Go.Ground.phase }, { on := 6, ground := Go.Ground.phase }, { on := 7, ground := Go.Ground.phase }, { on := 8, ground := Go.Ground.phase }, { on := 9, ground := Go.Ground.phase }, { on := 10, ground := Go.Ground.phase }, { on := 11, ground := Go.Ground.phase }, { on := 12, ground := Go.Ground.phase }, { on := 13, ground := Go.Ground.phase }], guard := none }) (v := ?v42) rfl (by kernel_rfl) (by kernel_rfl) (by kernel_rfl) (fun _ _ _ h => h) (Or.inl ⟨by kernel_rfl, ?h42⟩) (by assumption) ?r42
    case h42 => (intro w hSw; (try dsimp only at hSw); go_simp; try with_reducible rfl)
    try simp only [Act.put, List.setIfInBounds_toArray, List.set_cons_zero, List.set_cons_succ]
    refine wpAnyH_done (by kernel_rfl) ?_ _
    go_wp2
    go_ret
    rw [hR.out]
    exact ⟨rfl, BL.out.trans (hHeld.mono BL.out.size)⟩
  have hR : Hid (R = (((s ++ (⟨#[32, 58, 61, 32]⟩ : ByteArray)) ++ r) ++ (⟨#[32, 43, 32]⟩ : ByteArray)) ++ v) := Lib.hid (by rw [hL2.out, if_neg hc0, if_neg hcn])
  have k0 := HZ.out.cell 0
  have k1 := HZ.out.cell 1
  have k2 := HZ.out.cell 2
  have k3 := HZ.out.cell 3
  clear hL2 h ht hl hW1 hx0 hx
  go_enter Tryz.func72, Tryz.ntmps72
  go_wp2
  rw [← hW1'.out]
  clear hW1' k0 k1 k2 k3 x0 y0 x0w y0w
  have g0 : ∀ W, Below W1.heap.size W1 W → W.cell? ⟨w.heap.size, 0, none⟩ = some (.int .i64 k) := fun W hW => (HZ.out.below hW HZ.out.lt).cell 0
  have g1 : ∀ W, Below W1.heap.size W1 W → W.cell? ⟨w.heap.size, 1, none⟩ = some (.int .i64 ((i : Int) + 1)) := fun W hW => (HZ.out.below hW HZ.out.lt).cell 1
  have g2 : ∀ W, Below W1.heap.size W1 W → W.cell? ⟨w.heap.size, 2, none⟩ = some (.int .i64 ((j : Int) + 1)) := fun W hW => (HZ.out.below hW HZ.out.lt).cell 2
  have g3 : ∀ W, Below W1.heap.size W1 W → W.cell? ⟨w.heap.size, 3, none⟩ = some (.int .i64 c) := fun W hW => (HZ.out.below hW HZ.out.lt).cell 3
  refine wp_drawn_on (fun W => Below W1.heap.size W1 W) (by kernel_rfl) ((Below.refl _ _).drew) (fun hHeld => ?_)
  refine wpAnyH_take (i := 0) (oi := { dst := some 13, op := Go.Op.move (Go.Operand.tmp 5), type := 9, pos := "stmt.go:46", after := #[], guard := none }) (v := ?v43) rfl (by kernel_rfl) (by kernel_rfl) (by kernel_rfl) (fun _ _ _ h => h) (Or.inl ⟨by kernel_rfl, ?h43⟩) (by assumption) ?r43
  case h43 => (intro w hSw; (try dsimp only at hSw); go_simp; try with_reducible rfl)
  try simp only [Act.put, List.setIfInBounds_toArray, List.set_cons_zero, List.set_cons_succ]
  refine wpAnyH_take (i := 1) (oi := { dst := some 14, op := Go.Op.move (Go.Operand.tmp 0), type := 22, pos := "stmt.go:46", after := #[], guard := none }) (v := ?v44) rfl (by kernel_rfl) (by kernel_rfl) (by kernel_rfl) (fun _ _ _ h => h) (Or.inl ⟨by kernel_rfl, ?h44⟩) (by assumption) ?r44
  case h44 => (intro w hSw; (try dsimp only at hSw); go_simp; try with_reducible rfl)
  try simp only [Act.put, List.setIfInBounds_toArray, List.set_cons_zero, List.set_cons_succ]
  refine wpAnyH_take (i := 2) (oi := { dst := some 15, op := Go.Op.fieldAddr 38 (Go.Operand.tmp 3) 2, type := 0, pos := "stmt.go:46", after := #[], guard := none }) (v := ?v45) rfl (by kernel_rfl) (by kernel_rfl) (by kernel_rfl) (fun _ _ _ h => h) (Or.inl ⟨by kernel_rfl, ?h45⟩) (by assumption) ?r45
  case h45 => (intro w hSw; (try dsimp only at hSw); go_simp; try with_reducible rfl)
  try simp only [Act.put, List.setIfInBounds_toArray, List.set_cons_zero, List.set_cons_succ]
  refine wpAnyH_take (i := 3) (oi := { dst := some 16, op := Go.Op.load 3 (Go.Operand.tmp 15), type := 3, pos := "stmt.go:46", after := #[{ on := 2, ground := Go.Ground.data }], guard := none }) (v := ?v46) rfl (by kernel_rfl) (by kernel_rfl) (by kernel_rfl) (fun _ _ _ h => h) (Or.inl ⟨by kernel_rfl, ?h46⟩) (by assumption) ?r46
  case h46 => (intro w hSw; (try dsimp only at hSw); go_simp; try with_reducible rfl)
  try simp only [Act.put, List.setIfInBounds_toArray, List.set_cons_zero, List.set_cons_succ]
  refine wpAnyH_take (i := 4) (oi := { dst := some 17, op := Go.Op.binOp Go.BinOp.sub 3 (Go.Operand.tmp 16) (Go.Operand.const (Go.Value.int Go.IntKind.i64 1)) 3, type := 3, pos := "stmt.go:46", after := #[{ on := 3, ground := Go.Ground.data }], guard := none }) (v := ?v47) rfl (by kernel_rfl) (by kernel_rfl) (by kernel_rfl) (fun _ _ _ h => h) (Or.inl ⟨by kernel_rfl, ?h47⟩) (by assumption) ?r47
  case h47 => (intro w hSw; (try dsimp only at hSw); go_simp; try with_reducible rfl)
  try simp only [Act.put, List.setIfInBounds_toArray, List.set_cons_zero, List.set_cons_succ]
  refine wpAnyH_take (i := 5) (oi := { dst := some 18, op := Go.Op.indexAddr 22 (Go.Operand.tmp 14) (Go.Operand.tmp 17), type := 0, pos := "stmt.go:46", after := #[{ on := 1, ground := Go.Ground.data }, { on := 4, ground := Go.Ground.data }], guard := none }) (v := ?v48) rfl (by kernel_rfl) (by kernel_rfl) (by kernel_rfl) (fun _ _ _ h => h) (Or.inl ⟨by kernel_rfl, ?h48⟩) (by assumption) ?r48
  case h48 => (intro w hSw; (try dsimp only at hSw); go_simp; try with_reducible rfl)
  try simp only [Act.put, List.setIfInBounds_toArray, List.set_cons_zero, List.set_cons_succ]
  refine wpAnyH_take (i := 6) (oi := { dst := some 19, op := Go.Op.load 9 (Go.Operand.tmp 18), type := 9, pos := "stmt.go:46", after := #[{ on := 5, ground := Go.Ground.data }], guard := none }) (v := ?v49) rfl (by kernel_rfl) (by kernel_rfl) (by kernel_rfl) (fun _ _ _ h => h) (Or.inl ⟨by kernel_rfl, ?h49⟩) (by assumption) ?r49
  case h49 => (intro w hSw; (try dsimp only at hSw); go_simp; try with_reducible rfl)
  try simp only [Act.put, List.setIfInBounds_toArray, List.set_cons_zero, List.set_cons_succ]
  refine wpAnyH_take (i := 7) (oi := { dst := some 20, op := Go.Op.binOp Go.BinOp.add 9 (Go.Operand.tmp 13) (Go.Operand.tmp 19) 9, type := 9, pos := "stmt.go:46", after := #[{ on := 0, ground := Go.Ground.data }, { on := 6, ground := Go.Ground.data }], guard := none }) (v := ?v50) rfl (by kernel_rfl) (by kernel_rfl) (by kernel_rfl) (fun _ _ _ h => h) (Or.inl ⟨by kernel_rfl, ?h50⟩) (by assumption) ?r50
  case h50 => (intro w hSw; (try dsimp only at hSw); go_simp; try with_reducible rfl)
  try simp only [Act.put, List.setIfInBounds_toArray, List.set_cons_zero, List.set_cons_succ]
  refine wpAnyH_take (i := 8) (oi := { dst := some 21, op := Go.Op.binOp Go.BinOp.add 9 (Go.Operand.tmp 20) (Go.Operand.const (Go.Value.string { data := #[32, 43, 32] })) 9, type := 9, pos := "stmt.go:46", after := #[{ on := 7, ground := Go.Ground.data }], guard := none }) (v := ?v51) rfl (by kernel_rfl) (by kernel_rfl) (by kernel_rfl) (fun _ _ _ h => h) (Or.inl ⟨by kernel_rfl, ?h51⟩) (by assumption) ?r51
  case h51 => (intro w hSw; (try dsimp only at hSw); go_simp; try with_reducible rfl)
  try simp only [Act.put, List.setIfInBounds_toArray, List.set_cons_zero, List.set_cons_succ]
  refine wpAnyH_take (i := 9) (oi := { dst := some 22, op := Go.Op.fieldAddr 38 (Go.Operand.tmp 3) 3, type := 0, pos := "stmt.go:46", after := #[], guard := none }) (v := ?v52) rfl (by kernel_rfl) (by kernel_rfl) (by kernel_rfl) (fun _ _ _ h => h) (Or.inl ⟨by kernel_rfl, ?h52⟩) (by assumption) ?r52
  case h52 => (intro w hSw; (try dsimp only at hSw); go_simp; try with_reducible rfl)
  try simp only [Act.put, List.setIfInBounds_toArray, List.set_cons_zero, List.set_cons_succ]
  refine wpAnyH_take (i := 10) (oi := { dst := some 23, op := Go.Op.load 3 (Go.Operand.tmp 22), type := 3, pos := "stmt.go:46", after := #[{ on := 9, ground := Go.Ground.data }], guard := none }) (v := ?v53) rfl (by kernel_rfl) (by kernel_rfl) (by kernel_rfl) (fun _ _ _ h => h) (Or.inl ⟨by kernel_rfl, ?h53⟩) (by assumption) ?r53
  case h53 => (intro w hSw; (try dsimp only at hSw); go_simp; try with_reducible rfl)
  try simp only [Act.put, List.setIfInBounds_toArray, List.set_cons_zero, List.set_cons_succ]
  refine wpAnyH_ready (rs := [11]) (by kernel_rfl) (by simp) ?_
  refine AllReadyH.cons (o := { dst := some 24, op := Go.Op.call { callee := Go.Callee.value (Go.Operand.func 104), args := #[Go.Operand.tmp 23], argTypes := #[3] }, type := 9, pos := "stmt.go:46", after := #[{ on := 10, ground := Go.Ground.data }], guard := none }) rfl (fun K hK => ?_) AllReadyH.nil
  go_simp
  with_reducible refine (q1.out _ (T.out.on hHeld)).mono ?_
  rintro e t11 ⟨rfl, b11⟩
  go_simp
  refine hK.out _ _ (hHeld.trans (b11.mono hHeld.size)) (fun hHeld => ?_)
  clear hK K
  try simp only [Act.put, List.setIfInBounds_toArray, List.set_cons_zero, List.set_cons_succ]
  refine wpAnyH_take (i := 12) (oi := { dst := some 25, op := Go.Op.binOp Go.BinOp.add 9 (Go.Operand.tmp 21) (Go.Operand.tmp 24) 9, type := 9, pos := "stmt.go:46", after := #[{ on := 8, ground := Go.Ground.data }, { on := 11, ground := Go.Ground.data }], guard := none }) (v := ?v54) rfl (by kernel_rfl) (by kernel_rfl) (by kernel_rfl) (fun _ _ _ h => h) (Or.inl ⟨by kernel_rfl, ?h54⟩) (by assumption) ?r54
  case h54 => (intro w hSw; (try dsimp only at hSw); go_simp; try with_reducible rfl)
  try simp only [Act.put, List.setIfInBounds_toArray, List.set_cons_zero, List.set_cons_succ]
  refine wpAnyH_take (i := 13) (oi := { dst := some 4, op := Go.Op.assign (Go.Operand.tmp 25), type := 9, pos := "stmt.go:46", after := #[{ on := 12, ground := Go.Ground.data }, { on := 11, ground := Go.Ground.chain }, { on := 0, ground := Go.Ground.phase }, { on := 1, ground := Go.Ground.phase }, { on := 2, ground := Go.Ground.phase }, { on := 3, ground := Go.Ground.phase }, { on := 4, ground := Go.Ground.phase }, { on := 5, ground := Go.Ground.phase }, { on := 6, ground := Go.Ground.phase }, { on := 7, ground := Go.Ground.phase }, { on := 8, ground := Go.Ground.phase }, { on := 9, ground := Go.Ground.phase }, { on := 10, ground := Go.Ground.phase }, { on := 11, ground := Go.Ground.phase }, { on := 12, ground := Go.Ground.phase }], guard := none }) (v := ?v55) rfl (by kernel_rfl) (by kernel_rfl) (by kernel_rfl) (fun _ _ _ h => h) (Or.inl ⟨by kernel_rfl, ?h55⟩) (by assumption) ?r55
  case h55 => (intro w hSw; (try dsimp only at hSw); go_simp; try with_reducible rfl)
  try simp only [Act.put, List.setIfInBounds_toArray, List.set_cons_zero, List.set_cons_succ]
  refine wpAnyH_done (by kernel_rfl) ?_ _
  go_wp2
  go_ret
  rw [hR.out]
  exact ⟨rfl, BL.out.trans (hHeld.mono BL.out.size)⟩
end Go.Proofs.YtgeliikfgnkppaaGreatDoor
namespace Go.Proofs.YtgeliikfgnkppaaGreatDoor
open Go.RowKit
set_option linter.unusedVariables false
set_option linter.unusedSimpArgs false
def otherR (r : Nat) : Bool := !fileI (r : Int)
theorem idx_file (s : ByteArray) : ∀ f pos, s.size ≤ pos + f → (∀ t, t < pos → fileI ((codes s).getD t 0) = true) → decide (0 ≤ Lib.idxFuncFrom otherR true s f pos) = !allF s
  | 0, pos, hf, hal => by
    rw [allF_yes (fun t ht => hal t (by omega))]
    unfold Lib.idxFuncFrom
    rfl
  | f + 1, pos, hf, hal => by
    unfold Lib.idxFuncFrom
    by_cases hp : pos < s.size
    · rw [if_pos hp]
      have hat := codes_at s pos hp
      by_cases ha : (s[pos]'hp).toNat < 128
      · rw [decode_ascii s pos hp ha]
        cases hfi : fileI ((codes s).getD pos 0)
        · have h1 : otherR (s[pos]'hp).toNat = true := by unfold otherR; rw [← hat, hfi]; rfl
          rw [allF_no hp hfi]; simp [h1]
        · have h1 : otherR (s[pos]'hp).toNat = false := by unfold otherR; rw [← hat, hfi]; rfl
          have hn : ∀ t, t < pos + 1 → fileI ((codes s).getD t 0) = true := fun t ht => by
            by_cases e : t = pos
            · rw [e]; exact hfi
            · exact hal t (by omega)
          have ih := idx_file s f (pos + 1) (by omega) hn
          simp [ih, h1]
      · have hd := (decode_high s pos hp (by omega)).1
        have h1 : otherR (Utf8.decode s pos).1 = true := by unfold otherR; rw [file_high (by omega)]; rfl
        rw [h1, allF_no hp (file_high (by rw [hat]; omega))]
        simp
    · rw [if_neg hp, allF_yes (fun t ht => hal t (by omega))]
      rfl
set_option maxRecDepth 100000 in
theorem other_any (c : Int) (w : World) : Calls Tryz.prog 85 #[.int .i32 c] w (SetTo (.bool (!fileI c)) w) := by
  have q := Lib.hid (nameRune_any c w)
  cases hm : moreI c
  · have hR : Hid (fileI c = (decide (c = 45) || decide (c = 47))) := Lib.hid (by unfold fileI; rw [hm, Bool.false_or])
    rw [hm] at q
    clear hm
    generalize fileI c = R at *
    by_cases h1 : c = 45
    · have hF : Hid ((!R) = false) := Lib.hid (by rw [hR.out, decide_eq_true h1]; rfl)
      have h1b : (c != 45) = false := by simpa using h1
      clear hR h1
      go_enter Tryz.func85, Tryz.ntmps85
      go_wp2_with fail
      refine q.out.mono ?_
      rintro e w1 ⟨rfl, rfl⟩
      go_wp2
      go_ret
      exact ⟨ret_bool hF.out.symm, rfl⟩
    · have hF : Hid ((c != 47) = !R) := Lib.hid (by rw [hR.out, decide_eq_false h1, Bool.false_or, Bool.eq_iff_iff]; simp)
      have h1b : (c != 45) = true := by simpa using h1
      clear hR h1
      go_enter Tryz.func85, Tryz.ntmps85
      go_wp2_with fail
      refine q.out.mono ?_
      rintro e w1 ⟨rfl, rfl⟩
      go_wp2
      go_ret
      exact ⟨ret_bool hF.out, rfl⟩
  · have hR : Hid ((!fileI c) = false) := Lib.hid (by unfold fileI; rw [hm, Bool.true_or]; rfl)
    rw [hm] at q
    clear hm
    generalize (!fileI c) = R at *
    go_enter Tryz.func85, Tryz.ntmps85
    go_wp2_with fail
    refine q.out.mono ?_
    rintro e w1 ⟨rfl, rfl⟩
    go_wp2
    go_ret
    exact ⟨ret_bool hR.out.symm, rfl⟩
theorem contains_file (s : ByteArray) (w : World) : Calls Tryz.prog 87 #[.string s, .func (.func 85) #[] #[]] w (Gives (.bool (!allF s)) w) := by
  have h := Tryz.strings_ContainsFunc_grows 85 #[] (fun args w => by kernel_rfl) otherR s w (fun W x hx hb => (other_any (x : Int) W).mono (fun e w' h => ⟨h.1, by rw [← h.2]; exact Below.refl _ _⟩))
  rw [show decide (0 ≤ Lib.idxFunc otherR true s) = !allF s from idx_file s s.size 0 (by omega) (fun t ht => by omega)] at h
  exact h
set_option maxRecDepth 100000 in
theorem fileName_any (s : ByteArray) (w : World) : Calls Tryz.prog 57 #[.string s] w (Gives (.bool (fileB s)) w) := by
  by_cases h0 : s.size ≤ 64
  · have h0i : (s.size : Int) ≤ 64 := by omega
    have q1 := Lib.hid (begins_any s w)
    have q2 := Lib.hid (contains_file s w)
    cases hb : begB s
    · have hR : Hid (fileB s = false) := Lib.hid (by unfold fileB; rw [hb, Bool.false_and, Bool.and_false])
      rw [hb] at q1
      clear hb
      go_enter Tryz.func57, Tryz.ntmps57
      go_wp2_with fail
      refine q1.out.mono ?_
      rintro e w1 ⟨rfl, rfl⟩
      go_wp2
      go_ret
      exact ⟨ret_bool hR.out.symm, Below.refl _ _⟩
    · have hR : Hid (fileB s = allF s) := Lib.hid (by unfold fileB; rw [hb, decide_eq_true h0, Bool.true_and, Bool.true_and])
      rw [hb] at q1
      clear hb
      generalize fileB s = R at *
      generalize allF s = k at *
      go_enter Tryz.func57, Tryz.ntmps57
      go_wp2_with fail
      refine q1.out.mono ?_
      rintro e w1 ⟨rfl, rfl⟩
      go_wp2_with fail
      refine q2.out.mono ?_
      rintro e w2 ⟨rfl, hb2⟩
      go_wp2
      go_ret
      exact ⟨ret_bool (by rw [hR.out]; try (cases k <;> rfl)), hb2⟩
  · have h0i : ¬ (s.size : Int) ≤ 64 := by omega
    have hR : Hid (fileB s = false) := Lib.hid (by unfold fileB; rw [decide_eq_false h0, Bool.false_and])
    go_enter Tryz.func57, Tryz.ntmps57
    go_wp2
    go_ret
    exact ⟨ret_bool hR.out.symm, Below.refl _ _⟩
theorem file_no {s : ByteArray} {k : Nat} (hk : k < s.size) (h : fileI ((codes s).getD k 0) = false) : fileB s = false := by
  unfold fileB
  rw [allF_no hk h, Bool.and_false, Bool.and_false]
theorem file_yes {s : ByteArray} (h : ∀ t, t < s.size → fileI ((codes s).getD t 0) = true) : fileB s = (decide (0 < s.size) && (decide (s.size ≤ 64) && letterI ((codes s).getD 0 0))) := by
  unfold fileB begB
  rw [allF_yes h]
  cases decide (s.size ≤ 64) <;> cases decide (0 < s.size) <;> cases letterI ((codes s).getD 0 0) <;> rfl
set_option maxRecDepth 100000 in
set_option maxHeartbeats 1000000 in
theorem rfile_any (s : ByteArray) (hs : s.size ≤ 9223372036854775806) (w : World) : Calls Tryz.prog 40 #[.string s] w (SetTo (.bool (fileB s)) w) := by
  obtain ⟨R, hR'⟩ : ∃ R, R = fileB s := ⟨_, rfl⟩
  have hR := Lib.hid hR'
  rw [← hR']
  clear hR'
  go_enter Tryz.func40, Tryz.ntmps40
  go_wp2
  go_loop [3] (fun x => ∃ k : Nat, k ≤ s.size ∧ x = .int .i64 k ∧ Hid (∀ t, t < k → fileI ((codes s).getD t 0) = true)) (fun x => s.size - (intOf x).toNat)
  case atStart => exact ⟨0, Nat.zero_le _, rfl, Lib.hid (fun t ht => by omega)⟩
  case round =>
    obtain ⟨k, hk, rfl, hal⟩ := hrel
    by_cases hp : k < s.size
    · have hpi : (k : Int) < (s.size : Int) := by omega
      have hat := Lib.hid (codes_at s k hp)
      have hno : Hid (fileI ((s[k]'hp).toNat : Int) = false → R = false) := Lib.hid (fun h => by rw [hR.out]; exact file_no hp (by rw [hat.out]; exact h))
      have hyes : Hid (fileI ((s[k]'hp).toNat : Int) = true → ∀ t, t < k + 1 → fileI ((codes s).getD t 0) = true) := Lib.hid (fun h t ht => by
          by_cases e : t = k
          · rw [e, hat.out]; exact h
          · exact hal.out t (by omega))
      have q := Lib.hid (rmore_any ((s[k]'hp).toNat : Int) w)
      have hfe : Hid (fileI ((s[k]'hp).toNat : Int) = (moreI ((s[k]'hp).toNat : Int) || (decide (((s[k]'hp).toNat : Int) = 45) || decide (((s[k]'hp).toNat : Int) = 47)))) := Lib.hid rfl
      clear hal hat
      generalize fileI ((s[k]'hp).toNat : Int) = F at *
      cases hm : moreI ((s[k]'hp).toNat : Int)
      · rw [hm] at q hfe
        clear hm
        by_cases h1 : ((s[k]'hp).toNat : Int) = 45
        · have hn := Lib.hid (hyes.out (by rw [hfe.out, decide_eq_true h1]; rfl))
          have h1b : (((s[k]'hp).toNat : Int) != 45) = false := by simpa using h1
          clear hno hyes hfe h1
          go_wp2_with fail
          refine q.out.mono ?_
          rintro e w1 ⟨rfl, rfl⟩
          go_wp2
          go_round
          case rel => exact ⟨k + 1, by omega, by go_num, hn⟩
          case measure => simp [intOf]; omega
        · have h1b : (((s[k]'hp).toNat : Int) != 45) = true := by simpa using h1
          by_cases h2 : ((s[k]'hp).toNat : Int) = 47
          · have hn := Lib.hid (hyes.out (by rw [hfe.out, decide_eq_true h2, Bool.or_true, Bool.or_true]))
            have h2b : (((s[k]'hp).toNat : Int) != 47) = false := by simpa using h2
            clear hno hyes hfe h1 h2
            go_wp2_with fail
            refine q.out.mono ?_
            rintro e w1 ⟨rfl, rfl⟩
            go_wp2
            go_round
            case rel => exact ⟨k + 1, by omega, by go_num, hn⟩
            case measure => simp [intOf]; omega
          · have hf := Lib.hid (hno.out (by rw [hfe.out, decide_eq_false h1, decide_eq_false h2]; rfl))
            have h2b : (((s[k]'hp).toNat : Int) != 47) = true := by simpa using h2
            clear hno hyes hfe h1 h2
            go_wp2_with fail
            refine q.out.mono ?_
            rintro e w1 ⟨rfl, rfl⟩
            go_wp2
            go_ret
            exact ⟨ret_bool hf.out.symm, rfl⟩
      · have hn := Lib.hid (hyes.out (by rw [hfe.out, hm, Bool.true_or]))
        rw [hm] at q
        clear hm hno hyes hfe
        go_wp2_with fail
        refine q.out.mono ?_
        rintro e w1 ⟨rfl, rfl⟩
        go_wp2
        go_round
        case rel => exact ⟨k + 1, by omega, by go_num, hn⟩
        case measure => simp [intOf]; omega
    · have hpi : ¬ (k : Int) < (s.size : Int) := by omega
      have hY := Lib.hid (file_yes (s := s) (fun t ht => hal.out t (by omega)))
      clear hal
      by_cases h0 : 0 < s.size
      · have h0i : (0 : Int) < (s.size : Int) := by omega
        by_cases h1 : s.size ≤ 64
        · have h1i : (s.size : Int) ≤ 64 := by omega
          have q := Lib.hid (rletter_any ((s[0]'h0).toNat : Int) w)
          have hF : Hid (R = letterI ((s[0]'h0).toNat : Int)) := Lib.hid (by rw [hR.out, hY.out, decide_eq_true h0, decide_eq_true h1, codes_at s 0 h0]; rfl)
          clear hY hR
          go_wp2_with fail
          refine q.out.mono ?_
          rintro e w1 ⟨rfl, rfl⟩
          go_wp2
          go_ret
          exact ⟨ret_bool hF.out.symm, rfl⟩
        · have h1i : ¬ (s.size : Int) ≤ 64 := by omega
          have hF : Hid (R = false) := Lib.hid (by rw [hR.out, hY.out, decide_eq_true h0, decide_eq_false h1]; rfl)
          clear hY hR
          go_wp2
          go_ret
          exact ⟨ret_bool hF.out.symm, rfl⟩
      · have h0i : ¬ (0 : Int) < (s.size : Int) := by omega
        have hF : Hid (R = false) := Lib.hid (by rw [hR.out, hY.out, decide_eq_false h0]; rfl)
        clear hY hR
        go_wp2
        go_ret
        exact ⟨ret_bool hF.out.symm, rfl⟩
end Go.Proofs.YtgeliikfgnkppaaGreatDoor
namespace Go.Proofs.YtgeliikfgnkppaaGreatDoor
open Go.RowKit
set_option linter.unusedVariables false
def SeesC (B : Nat) (w : World) (a : Option Addr) (cs : List Value) : Prop :=
  cs = [] ∨ ∃ b off, a = some ⟨b, off, none⟩ ∧ b < B ∧ ∀ i u, cs[i]? = some u → w.cell? ⟨b, off + i, none⟩ = some u
theorem SeesC.below {B : Nat} {w w' : World} {a : Option Addr} {cs : List Value} (h : SeesC B w a cs) (hb : Below B w w') : SeesC B w' a cs := by
  rcases h with h | ⟨b, off, rfl, hB, hc⟩
  · exact .inl h
  · exact .inr ⟨b, off, rfl, hB, fun i u hu => (hb.cell (p := ⟨b, off + i, none⟩) hB).trans (hc i u hu)⟩
theorem SeesC.mono {B B' : Nat} {w : World} {a : Option Addr} {cs : List Value} (h : SeesC B w a cs) (hb : B ≤ B') : SeesC B' w a cs := by
  rcases h with h | ⟨b, off, rfl, hB, hc⟩
  · exact .inl h
  · exact .inr ⟨b, off, rfl, by omega, hc⟩
theorem add_at (b off i : Nat) : (⟨b, off, none⟩ : Addr).add i = ⟨b, off + i, none⟩ := by unfold Addr.add; split <;> simp_all
theorem seesC_lit (w : World) (e : TypeId) (cs : Array Value) (fr : Nat × Nat := (0, 0)) : SeesC (w.alloc (.cells cs e fr)).heap.size (w.alloc (.cells cs e fr)) (some ⟨w.heap.size, 0, none⟩) cs.toList := by
  refine .inr ⟨w.heap.size, 0, rfl, by simp, fun i u hu => ?_⟩
  rw [cell_of_row _ _ _ _ _ _ (heap_alloc_new w _)]
  simpa using hu
theorem flat_at {α : Type} {f : α → List Value} {k : Nat} (hk : ∀ x, (f x).length = k) : ∀ (l : List α) (i j : Nat), j < k → (l.flatMap f)[i * k + j]? = (l[i]?).bind fun x => (f x)[j]?
  | [], i, j, _ => by simp
  | x :: l, 0, j, hj => by simp [List.getElem?_append, hk, hj]
  | x :: l, i + 1, j, hj => by
    have ih := flat_at hk l i j hj
    rw [List.flatMap_cons, List.getElem?_append_right (by rw [hk, Nat.succ_mul]; omega), hk, show (i + 1) * k + j - k = i * k + j by rw [Nat.succ_mul]; omega, ih]
    simp
theorem flat_len {α : Type} {f : α → List Value} {k : Nat} (hk : ∀ x, (f x).length = k) : ∀ (l : List α), (l.flatMap f).length = l.length * k
  | [] => by simp
  | x :: l => by rw [List.flatMap_cons, List.length_append, flat_len hk l, hk, List.length_cons, Nat.succ_mul]; omega
theorem own_cells (w : World) (e : TypeId) (size n : Nat) (cs : Array Value) (hn : cs.size = n * size) (hm : n ≤ maxLen) : (w.alloc (.cells cs e)).ownsRow w.heap.size e size (.slice (some ⟨w.heap.size, 0, none⟩) n n) n cs.toList :=
  ⟨by simpa using hn, .inr ⟨w.heap.size, n, cs, rfl, Nat.le_refl _, heap_alloc_new w _, Nat.le_refl _, hm, hn, by rw [List.take_of_length_le (by simp; omega)]⟩⟩
end Go.Proofs.YtgeliikfgnkppaaGreatDoor
namespace Go.Proofs.YtgeliikfgnkppaaGreatDoor
open Go.RowKit
set_option linter.unusedVariables false
structure RO {α : Type} (f : α → List Value) (w : World) (a : Option Addr) (n c : Nat) (l : List α) : Prop where
  len : n = l.length
  cap : n ≤ c
  max : c ≤ maxLen
  sees : SeesC w.heap.size w a (l.flatMap f)
theorem RO.below {α : Type} {f : α → List Value} {w w' : World} {a : Option Addr} {n c : Nat} {l : List α} (h : RO f w a n c l) (hb : Below w.heap.size w w') : RO f w' a n c l := ⟨h.len, h.cap, h.max, (h.sees.below hb).mono hb.size⟩
theorem RO.drewN {α : Type} {f : α → List Value} {w : World} {a : Option Addr} {n c : Nat} {l : List α} (h : RO f w a n c l) (m : Nat) : RO f (w.drewN m) a n c l := ⟨h.len, h.cap, h.max, h.sees⟩
theorem RO.nil {α : Type} {f : α → List Value} (w : World) : RO f w none 0 0 [] := ⟨rfl, Nat.le_refl _, by simp, .inl rfl⟩
theorem RO.max' {α : Type} {f : α → List Value} {w : World} {a : Option Addr} {n c : Nat} {l : List α} (h : RO f w a n c l) : n ≤ 9223372036854775807 := by
  have h1 := h.cap
  have h2 := h.max
  unfold maxLen at h2
  omega
theorem RO.at_ {α : Type} {f : α → List Value} {k : Nat} (hk : ∀ x, (f x).length = k) (h0 : 0 < k) {w : World} {a : Option Addr} {n c : Nat} {l : List α} (h : RO f w a n c l) (d : α) {i : Nat} (hi : i < n) :
    ∃ b off, a = some ⟨b, off, none⟩ ∧ b < w.heap.size ∧ ∀ j, j < k → w.cell? ⟨b, off + (i * k + j), none⟩ = (f (l.getD i d))[j]? := by
  have hl : i < l.length := by rw [← h.len]; exact hi
  rcases h.sees with e | ⟨b, off, rfl, hB, hc⟩
  · have h1 := congrArg List.length e
    rw [flat_len hk] at h1
    have h2 : 0 < l.length * k := Nat.mul_pos (by omega) h0
    simp at h1
    have : l.length * k = 0 := by simp [h1]
    omega
  · refine ⟨b, off, rfl, hB, fun j hj => ?_⟩
    have h1 : (l.flatMap f)[i * k + j]? = (f (l.getD i d))[j]? := by
      rw [flat_at hk l i j hj]
      simp [List.getD, hl]
    have h2 : j < (f (l.getD i d)).length := by rw [hk]; exact hj
    rw [List.getElem?_eq_getElem h2] at h1 ⊢
    exact hc _ _ h1
end Go.Proofs.YtgeliikfgnkppaaGreatDoor
namespace Go.Proofs.YtgeliikfgnkppaaGreatDoor
open Go.RowKit Go.ChangeShapes Go.WideShapes Go.Deep
set_option linter.unusedVariables false
def flatT (P : Program) : Nat → TypeId → List TypeId
  | 0, t => [t]
  | n + 1, t => match P.underlying t with
    | some (.struct fs) => fs.toList.flatMap fun f => flatT P n f.type
    | _ => [t]
def flatOK (P : Program) : Nat → TypeId → Bool
  | 0, t => true
  | n + 1, t => match P.underlying t with
    | some (.struct fs) => (List.range fs.size).all fun i => match fs[i]? with
      | some f => flatOK P n f.type && ((f.offset == ((fs.toList.take i).flatMap fun f => flatT P n f.type).length) && (P.cellsOf f.type == (flatT P n f.type).length))
      | none => true
    | _ => true
theorem flat_find {α β : Type} (g : α → List β) : ∀ (L : List α) (j : Nat) (y : β), (L.flatMap g)[j]? = some y → ∃ i x j', L[i]? = some x ∧ (g x)[j']? = some y ∧ j = ((L.take i).flatMap g).length + j'
  | [], j, y, h => by simp at h
  | x :: L, j, y, h => by
    rw [List.flatMap_cons] at h
    rcases Nat.lt_or_ge j (g x).length with hj | hj
    · rw [List.getElem?_append_left hj] at h
      exact ⟨0, x, j, rfl, h, by simp⟩
    · rw [List.getElem?_append_right hj] at h
      obtain ⟨i, x', j', h1, h2, h3⟩ := flat_find g L _ y h
      refine ⟨i + 1, x', j', by simpa using h1, h2, ?_⟩
      rw [List.take_succ_cons, List.flatMap_cons, List.length_append]
      omega
theorem flat_upto {α β : Type} (g : α → List β) (L : List α) {i : Nat} {x : α} (h : L[i]? = some x) : ((L.take i).flatMap g).length + (g x).length ≤ (L.flatMap g).length := by
  have e : L = L.take i ++ x :: L.drop (i + 1) := by
    have hl : i < L.length := (List.getElem?_eq_some_iff.1 h).1
    have hx : L[i] = x := (List.getElem?_eq_some_iff.1 h).2
    rw [← hx, ← List.drop_eq_getElem_cons hl, List.take_append_drop]
  conv => rhs; rw [e]
  rw [List.flatMap_append, List.flatMap_cons, List.length_append, List.length_append]
  omega
theorem flat_read {H : Type} {enc : TypeId × Value → H} {P : Program} {w : World} : ∀ (n : Nat) (t : TypeId) (fuel : Nat) (cs : List Value) (x : DataW H × List MemPlace), flatOK P n t = true → cs.length = (flatT P n t).length →
    DataW.trod enc P w 0 (fun _ => true) true fuel t cs = some x → Reach P t x.1 →
    ∀ (j : Nat) (u : TypeId), (flatT P n t)[j]? = some u → ∃ (v : Value) (y : DataW H × List MemPlace) (m : Nat), cs[j]? = some v ∧ DataW.trod enc P w 0 (fun _ => true) true m u [v] = some y ∧ Reach P u y.1
  | 0, t, fuel, cs, x, _, hl, h, hR, j, u, hu => by
    unfold flatT at hl hu
    match cs, hl with
    | [v], _ =>
      have hj : j = 0 := by have := (List.getElem?_eq_some_iff.1 hu).1; simp at this; omega
      subst hj
      obtain rfl : t = u := by simpa using hu
      exact ⟨v, x, fuel, rfl, h, hR⟩
  | n + 1, t, fuel, cs, x, hok, hl, h, hR, j, u, hu => by
    cases hs : P.underlying t with
    | none =>
      unfold flatT at hl hu
      rw [hs] at hl hu
      match cs, hl with
      | [v], _ =>
        have hj : j = 0 := by have := (List.getElem?_eq_some_iff.1 hu).1; simp at this; omega
        subst hj
        obtain rfl : t = u := by simpa using hu
        exact ⟨v, x, fuel, rfl, h, hR⟩
    | some d =>
      by_cases hd : ∃ fs, d = .struct fs
      · obtain ⟨fs, rfl⟩ := hd
        unfold flatT at hl hu
        unfold flatOK at hok
        rw [hs] at hl hu hok
        simp only at hl hu hok
        obtain ⟨i, f, j', h1, h2, h3⟩ := flat_find _ _ _ _ hu
        have h1' : fs[i]? = some f := by simpa using h1
        have hil : i < fs.size := (Array.getElem?_eq_some_iff.1 h1').1
        have hf := List.all_eq_true.1 hok i (List.mem_range.2 hil)
        rw [h1'] at hf
        simp only [Bool.and_eq_true, beq_iff_eq] at hf
        obtain ⟨hf1, hf2, hf3⟩ := hf
        obtain ⟨ys, m, _, hys, _, hyl, hrd⟩ := DataW.trod_struct hs h
        have hri := hrd i f h1'
        have hup := flat_upto (fun f : Field => flatT P n f.type) fs.toList h1
        have hyi : i < ys.length := by rw [hyl]; exact hil
        rw [List.getElem?_eq_getElem hyi, hf3] at hri
        have hx : x.1 = .agg (ys.map (·.1)) := by rw [hys]
        rw [hx] at hR
        have hRi := weights_agg hs hR h1' (d := ys[i].1) (by simp [List.getElem?_eq_getElem hyi])
        have hlen : ((cs.drop f.offset).take (flatT P n f.type).length).length = (flatT P n f.type).length := by
          rw [List.length_take, List.length_drop, hl, hf2]
          have := hup
          omega
        obtain ⟨v, y, m', g1, g2, g3⟩ := flat_read n f.type m _ ys[i] hf1 hlen hri hRi j' u h2
        refine ⟨v, y, m', ?_, g2, g3⟩
        have hj' : j' < (flatT P n f.type).length := (List.getElem?_eq_some_iff.1 h2).1
        rw [List.getElem?_take, if_pos hj', List.getElem?_drop] at g1
        rw [h3, ← hf2]
        exact g1
      · unfold flatT at hl hu
        rw [hs] at hl hu
        have e1 : (match some d with | some (.struct fs) => fs.toList.flatMap fun f => flatT P n f.type | _ => [t]) = [t] := by
          split
          · rename_i fs he
            injection he with he
            exact absurd ⟨_, he⟩ hd
          · rfl
        rw [e1] at hl hu
        match cs, hl with
        | [v], _ =>
          have hj : j = 0 := by have := (List.getElem?_eq_some_iff.1 hu).1; simp at this; omega
          subst hj
          obtain rfl : t = u := by simpa using hu
          exact ⟨v, x, fuel, rfl, h, hR⟩
theorem flat_row {H : Type} {enc : TypeId × Value → H} {P : Program} {w : World} {fuel : Nat} {t e : TypeId} {r : Option Addr} {len cap : Nat} {x : DataW H × List MemPlace} (n : Nat) (ts : List TypeId)
    (ht : P.underlying t = some (.slice e)) (hok : flatOK P n e = true) (hts : flatT P n e = ts) (hC : P.cellsOf e = ts.length) (h0 : 0 < ts.length)
    (h : DataW.trod enc P w 0 (fun _ => true) true fuel t [.slice r len cap] = some x) (hR : Reach P t x.1) :
    len ≤ cap ∧ cap ≤ maxLen ∧ (len = 0 ∨ len * P.bytesOf e ≤ 140737488351232 ∧ ∃ b off, r = some ⟨b, off, none⟩ ∧ b < w.heap.size ∧
      ∀ i, i < len → ∀ (j : Nat) (u : TypeId), ts[j]? = some u → ∃ (v : Value) (y : DataW H × List MemPlace) (m : Nat), w.cell? ⟨b, off + (i * ts.length + j), none⟩ = some v ∧ DataW.trod enc P w 0 (fun _ => true) true m u [v] = some y ∧ Reach P u y.1) := by
  subst hts
  rcases open_slice ht h with ⟨hcs, _⟩ | ⟨a, l, c, m, k, D, Pl, hcs, hb, hl, hm, hmm, hx, hi⟩
  · simp at hcs
    obtain ⟨rfl, rfl, rfl⟩ := hcs
    exact ⟨Nat.le_refl _, by simp, .inl rfl⟩
  · simp at hcs
    obtain ⟨rfl, rfl, rfl⟩ := hcs
    refine ⟨hl, hm, ?_⟩
    by_cases hz : len = 0
    · exact .inl hz
    right
    rw [hx] at hR
    obtain ⟨hw1, hw2⟩ := weights_slice ht hR
    simp only [List.length_map, List.length_range] at hw1
    have key : ∀ i, i < len → ∀ (j : Nat) (u : TypeId), (flatT P n e)[j]? = some u → ∃ (v : Value) (y : DataW H × List MemPlace) (m : Nat), w.cell? (a.add (i * (flatT P n e).length + j)) = some v ∧ DataW.trod enc P w 0 (fun _ => true) true m u [v] = some y ∧ Reach P u y.1 := by
      intro i hil j u hj
      obtain ⟨cs', hc, ht'⟩ := hi i (by rw [hmm]; simp; omega)
      rw [hC] at hc
      obtain ⟨_, hcl, hat⟩ := World.cells?_some hc
      have hRi := hw2 (D i) (List.mem_map.2 ⟨i, by simpa using hil, rfl⟩)
      obtain ⟨v, y, m', g1, g2, g3⟩ := flat_read n e k cs' (D i, Pl i) hok hcl ht' hRi j u hj
      have hjl : j < (flatT P n e).length := (List.getElem?_eq_some_iff.1 hj).1
      have hcell := hat j hjl
      refine ⟨v, y, m', by rw [← Go.Deep.add_add, hcell, g1], g2, g3⟩
    refine ⟨Nat.le_trans (Nat.mul_le_mul_right _ (Nat.le_add_right _ _)) hw1, ?_⟩
    obtain ⟨b, off, spot⟩ := a
    obtain ⟨v0, _, _, hv0, _⟩ := key 0 (by omega) 0 _ (List.getElem?_eq_getElem h0)
    simp only [Nat.zero_mul, Nat.add_zero] at hv0
    have hspot : spot = none := by
      have : ((⟨b, off, spot⟩ : Addr).add 0).spot = none := World.cell?_spot hv0
      simpa [Addr.add] using this
    subst hspot
    refine ⟨b, off, rfl, ?_, fun i hil j u hj => ?_⟩
    · rw [add_at] at hv0
      exact World.block_lt_of_cell? w _ hv0
    · obtain ⟨v, y, m', h1, h2⟩ := key i hil j u hj
      rw [add_at] at h1
      exact ⟨v, y, m', h1, h2⟩
theorem row_of {α : Type} (f : α → List Value) (k : Nat) (hk : ∀ x, (f x).length = k) (h0 : 0 < k) (good : α → Prop) (d : α) {w : World} {r : Option Addr} {len cap : Nat} (hl : len ≤ cap) (hm : cap ≤ maxLen)
    (h : len = 0 ∨ ∃ b off, r = some ⟨b, off, none⟩ ∧ b < w.heap.size ∧ ∀ i, i < len → ∃ s, good s ∧ ∀ j, j < k → w.cell? ⟨b, off + (i * k + j), none⟩ = (f s)[j]?) :
    ∃ l : List α, RO f w r len cap l ∧ ∀ s ∈ l, good s := by
  rcases h with rfl | ⟨b, off, rfl, hB, h⟩
  · exact ⟨[], ⟨rfl, hl, hm, .inl rfl⟩, by simp⟩
  · have key : ∀ i, ∃ s : α, i < len → good s ∧ ∀ j, j < k → w.cell? ⟨b, off + (i * k + j), none⟩ = (f s)[j]? := by
      intro i
      by_cases hi : i < len
      · obtain ⟨s, hs⟩ := h i hi; exact ⟨s, fun _ => hs⟩
      · exact ⟨d, fun h => absurd h hi⟩
    let T : Nat → α := fun i => Classical.choose (key i)
    have hT : ∀ i, i < len → good (T i) ∧ ∀ j, j < k → w.cell? ⟨b, off + (i * k + j), none⟩ = (f (T i))[j]? := fun i hi => Classical.choose_spec (key i) hi
    refine ⟨(List.range len).map T, ⟨by simp, hl, hm, .inr ⟨b, off, rfl, hB, fun p u hu => ?_⟩⟩, fun s hs => ?_⟩
    · have hp : p < len * k := by
        have := (List.getElem?_eq_some_iff.1 hu).1
        rw [flat_len hk] at this
        simpa using this
      have hd : p / k < len := Nat.div_lt_of_lt_mul (by rw [Nat.mul_comm]; exact hp)
      have hr : p % k < k := Nat.mod_lt _ h0
      have he : p = p / k * k + p % k := by rw [Nat.mul_comm]; exact (Nat.div_add_mod p k).symm
      rw [he, flat_at hk _ _ _ hr] at hu
      have h1 : ((List.range len).map T)[p / k]? = some (T (p / k)) := by simp [hd]
      rw [h1] at hu
      rw [he, (hT _ hd).2 _ hr]
      exact hu
    · obtain ⟨i, hi, rfl⟩ := List.mem_map.1 hs
      exact (hT i (by simpa using hi)).1
end Go.Proofs.YtgeliikfgnkppaaGreatDoor
namespace Go.Proofs.YtgeliikfgnkppaaGreatDoor
open Go.RowKit Go.ChangeShapes Go.WideShapes Go.Deep
set_option linter.unusedVariables false
set_option linter.unusedSimpArgs false
structure SpotD where
  fn : ByteArray
  file : ByteArray
  line : Int
structure EdgeD where
  frm : Int
  dst : Int
  k : Int
  x : Int
  y : Int
  c : Int
  d : Int
deriving DecidableEq
structure PD where
  nm : ByteArray
  vars : List ByteArray
  spots : List SpotD
  edges : List EdgeD
def spot0 : SpotD := ⟨e0, e0, 0⟩
def edge0 : EdgeD := ⟨0, 0, 0, 0, 0, 0, 0⟩
def spotC (s : SpotD) : List Value := [.string s.fn, .string s.file, .int .i64 s.line]
def edgeC (e : EdgeD) : List Value := [.int .i64 e.frm, .int .i64 e.dst, .int .i64 e.k, .int .i64 e.x, .int .i64 e.y, .int .i64 e.c, .int .i64 e.d]
theorem spotC_len (s : SpotD) : (spotC s).length = 3 := rfl
theorem edgeC_len (e : EdgeD) : (edgeC e).length = 7 := rfl
def spotW (s : SpotD) : Prop := s.fn.size ≤ 140737488351232 ∧ s.file.size ≤ 140737488351232 ∧ (Lit.int .i64 s.line).wf = true
def edgeW (e : EdgeD) : Prop := (Lit.int .i64 e.frm).wf = true ∧ (Lit.int .i64 e.dst).wf = true ∧ (Lit.int .i64 e.k).wf = true ∧ (Lit.int .i64 e.x).wf = true ∧ (Lit.int .i64 e.y).wf = true ∧ (Lit.int .i64 e.c).wf = true ∧ (Lit.int .i64 e.d).wf = true
def SpotsSl (w : World) (a : Option Addr) (n c : Nat) : Prop := ∃ l, RO spotC w a n c l ∧ (∀ s ∈ l, spotW s) ∧ n ≤ 3518437208780
def EdgesSl (w : World) (a : Option Addr) (n c : Nat) : Prop := ∃ l, RO edgeC w a n c l ∧ (∀ s ∈ l, edgeW s) ∧ n ≤ 3518437208780
theorem spot_bytes : Tryz.prog.bytesOf 54 = 40 := by kernel_rfl
theorem edge_bytes : Tryz.prog.bytesOf 52 = 56 := by kernel_rfl
theorem spot_row {H : Type} {enc : TypeId × Value → H} {w : World} {fuel : Nat} {r : Option Addr} {len cap : Nat} {x : DataW H × List MemPlace}
    (h : DataW.trod enc Tryz.prog w 0 (fun _ => true) true fuel 23 [.slice r len cap] = some x) (hR : Reach Tryz.prog 23 x.1) : SpotsSl w r len cap := by
  obtain ⟨h1, h2, h3⟩ := flat_row 2 [9, 9, 3] Tryz.underlying23 (by kernel_rfl) (by kernel_rfl) (by kernel_rfl) (by decide) h hR
  have hn : len ≤ 3518437208780 := by
    rcases h3 with rfl | ⟨hb, _⟩
    · omega
    · rw [spot_bytes] at hb; omega
  obtain ⟨l, g1, g2⟩ := row_of (w := w) (r := r) (len := len) (cap := cap) spotC 3 spotC_len (by decide) spotW spot0 h1 h2 (by
    rcases h3 with rfl | ⟨_, b, off, rfl, hB, hc⟩
    · exact .inl rfl
    · refine .inr ⟨b, off, rfl, hB, fun i hi => ?_⟩
      obtain ⟨v0, y0, m0, c0, t0, r0⟩ := hc i hi 0 _ rfl
      obtain ⟨v1, y1, m1, c1, t1, r1⟩ := hc i hi 1 _ rfl
      obtain ⟨v2, y2, m2, c2, t2, r2⟩ := hc i hi 2 _ rfl
      obtain ⟨z0, e0', ez0, _⟩ := DataW.trod_string Tryz.underlying9 t0
      obtain ⟨z1, e1, ez1, _⟩ := DataW.trod_string Tryz.underlying9 t1
      obtain ⟨z2, e2, _, w2⟩ := DataW.trod_int Tryz.underlying3 t2
      simp at e0' e1 e2
      subst e0' e1 e2
      subst ez0 ez1
      refine ⟨⟨z0, z1, z2⟩, ⟨reach_string r0, reach_string r1, w2⟩, fun j hj => ?_⟩
      match j, hj with
      | 0, _ => exact c0
      | 1, _ => exact c1
      | 2, _ => exact c2)
  exact ⟨l, g1, g2, hn⟩
theorem edge_row {H : Type} {enc : TypeId × Value → H} {w : World} {fuel : Nat} {r : Option Addr} {len cap : Nat} {x : DataW H × List MemPlace}
    (h : DataW.trod enc Tryz.prog w 0 (fun _ => true) true fuel 24 [.slice r len cap] = some x) (hR : Reach Tryz.prog 24 x.1) : EdgesSl w r len cap := by
  obtain ⟨h1, h2, h3⟩ := flat_row 3 [3, 3, 3, 3, 3, 3, 3] Tryz.underlying24 (by kernel_rfl) (by kernel_rfl) (by kernel_rfl) (by decide) h hR
  have hn : len ≤ 3518437208780 := by
    rcases h3 with rfl | ⟨hb, _⟩
    · omega
    · rw [edge_bytes] at hb; omega
  obtain ⟨l, g1, g2⟩ := row_of (w := w) (r := r) (len := len) (cap := cap) edgeC 7 edgeC_len (by decide) edgeW edge0 h1 h2 (by
    rcases h3 with rfl | ⟨_, b, off, rfl, hB, hc⟩
    · exact .inl rfl
    · refine .inr ⟨b, off, rfl, hB, fun i hi => ?_⟩
      obtain ⟨v0, y0, m0, c0, t0, r0⟩ := hc i hi 0 _ rfl
      obtain ⟨v1, y1, m1, c1, t1, r1⟩ := hc i hi 1 _ rfl
      obtain ⟨v2, y2, m2, c2, t2, r2⟩ := hc i hi 2 _ rfl
      obtain ⟨v3, y3, m3, c3, t3, r3⟩ := hc i hi 3 _ rfl
      obtain ⟨v4, y4, m4, c4, t4, r4⟩ := hc i hi 4 _ rfl
      obtain ⟨v5, y5, m5, c5, t5, r5⟩ := hc i hi 5 _ rfl
      obtain ⟨v6, y6, m6, c6, t6, r6⟩ := hc i hi 6 _ rfl
      obtain ⟨z0, e0', _, w0⟩ := DataW.trod_int Tryz.underlying3 t0
      obtain ⟨z1, e1, _, w1⟩ := DataW.trod_int Tryz.underlying3 t1
      obtain ⟨z2, e2, _, w2⟩ := DataW.trod_int Tryz.underlying3 t2
      obtain ⟨z3, e3, _, w3⟩ := DataW.trod_int Tryz.underlying3 t3
      obtain ⟨z4, e4, _, w4⟩ := DataW.trod_int Tryz.underlying3 t4
      obtain ⟨z5, e5, _, w5⟩ := DataW.trod_int Tryz.underlying3 t5
      obtain ⟨z6, e6, _, w6⟩ := DataW.trod_int Tryz.underlying3 t6
      simp at e0' e1 e2 e3 e4 e5 e6
      subst e0' e1 e2 e3 e4 e5 e6
      refine ⟨⟨z0, z1, z2, z3, z4, z5, z6⟩, ⟨w0, w1, w2, w3, w4, w5, w6⟩, fun j hj => ?_⟩
      match j, hj with
      | 0, _ => exact c0
      | 1, _ => exact c1
      | 2, _ => exact c2
      | 3, _ => exact c3
      | 4, _ => exact c4
      | 5, _ => exact c5
      | 6, _ => exact c6)
  exact ⟨l, g1, g2, hn⟩
structure PV where
  nm : ByteArray
  a1 : Option Addr
  n1 : Nat
  c1 : Nat
  a2 : Option Addr
  n2 : Nat
  c2 : Nat
  a3 : Option Addr
  n3 : Nat
  c3 : Nat
abbrev PV.cells (p : PV) : Array Value := #[.string p.nm, .slice p.a1 p.n1 p.c1, .slice p.a2 p.n2 p.c2, .slice p.a3 p.n3 p.c3]
structure PrA (w : World) (p : PV) (D : PD) : Prop where
  nm : p.nm = D.nm
  vars : TT w p.a1 p.n1 p.c1 D.vars
  spots : RO spotC w p.a2 p.n2 p.c2 D.spots
  edges : RO edgeC w p.a3 p.n3 p.c3 D.edges
theorem PrA.below {w w' : World} {p : PV} {D : PD} (h : PrA w p D) (hb : Below w.heap.size w w') : PrA w' p D := ⟨h.nm, h.vars.below hb, h.spots.below hb, h.edges.below hb⟩
theorem PrA.drewN {w : World} {p : PV} {D : PD} (h : PrA w p D) (n : Nat) : PrA (w.drewN n) p D := h.below (Below.drewN (Below.refl _ _) n)
structure PW (D : PD) : Prop where
  nm : D.nm.size ≤ 140737488351232
  vars : ∀ s ∈ D.vars, s.size ≤ 140737488351232
  spots : ∀ s ∈ D.spots, spotW s
  edges : ∀ e ∈ D.edges, edgeW e
end Go.Proofs.YtgeliikfgnkppaaGreatDoor
