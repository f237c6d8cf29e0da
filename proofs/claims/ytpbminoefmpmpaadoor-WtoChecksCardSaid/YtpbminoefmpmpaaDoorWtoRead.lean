/- wto: the reader in memory; next, point. -/
import Derived.Test.YtpbminoefmpmpaaDoorWtoRefShow
import Derived.Test.YtpbminoefmpmpaaDoorValParse
import Derived.Test.YtpbminoefmpmpaaDoorStr
namespace Go.Proofs.YtpbminoefmpmpaaDoor
open Go.RowKit
set_option linter.unusedVariables false
set_option linter.unusedSimpArgs false

/-- A reader's cells: its text, its place, its two rows, which points were there. -/
def rcells (s : ByteArray) (p : Nat) (vP vS : Value) (P : List Int) (a : Nat) : Array Value := #[.string s, .int .i64 p, vP, vS] ++ seenA P a
theorem rc0 (s : ByteArray) (p : Nat) (vP vS : Value) (P : List Int) (a : Nat) : (rcells s p vP vS P a)[0]? = some (.string s) := by unfold rcells; rw [Array.getElem?_append_left (by simp)]; rfl
theorem rc1 (s : ByteArray) (p : Nat) (vP vS : Value) (P : List Int) (a : Nat) : (rcells s p vP vS P a)[1]? = some (.int .i64 p) := by unfold rcells; rw [Array.getElem?_append_left (by simp)]; rfl
theorem rc2 (s : ByteArray) (p : Nat) (vP vS : Value) (P : List Int) (a : Nat) : (rcells s p vP vS P a)[2]? = some vP := by unfold rcells; rw [Array.getElem?_append_left (by simp)]; rfl
theorem rc3 (s : ByteArray) (p : Nat) (vP vS : Value) (P : List Int) (a : Nat) : (rcells s p vP vS P a)[3]? = some vS := by unfold rcells; rw [Array.getElem?_append_left (by simp)]; rfl
theorem rc4 (s : ByteArray) (p : Nat) (vP vS : Value) (P : List Int) (a x : Nat) (hx : x < 128) : (rcells s p vP vS P a)[4 + x]? = some (.bool ((P.take a).contains (x : Int))) := by
  unfold rcells
  rw [Array.getElem?_append_right (by simp)]
  rw [← seen_at P a x hx]
  congr 1
  simp
theorem rs1 (s : ByteArray) (p q : Nat) (vP vS : Value) (P : List Int) (a : Nat) : (rcells s p vP vS P a).setIfInBounds 1 (.int .i64 q) = rcells s q vP vS P a := by
  unfold rcells
  rw [Array.setIfInBounds_append_left (by simp)]
  rfl
theorem rs2 (s : ByteArray) (p : Nat) (vP vS v : Value) (P : List Int) (a : Nat) : (rcells s p vP vS P a).setIfInBounds 2 v = rcells s p v vS P a := by
  unfold rcells
  rw [Array.setIfInBounds_append_left (by simp)]
  rfl
theorem rs3 (s : ByteArray) (p : Nat) (vP vS v : Value) (P : List Int) (a : Nat) : (rcells s p vP vS P a).setIfInBounds 3 v = rcells s p vP v P a := by
  unfold rcells
  rw [Array.setIfInBounds_append_left (by simp)]
  rfl
theorem rs4 (s : ByteArray) (p : Nat) (vP vS : Value) (P : List Int) (a x : Nat) (ha : a < P.length) (hx : x < 128) (he : P.getD a 0 = x) : (rcells s p vP vS P a).setIfInBounds (4 + x) (.bool true) = rcells s p vP vS P (a + 1) := by
  unfold rcells
  rw [Array.setIfInBounds_append_right (by simp)]
  rw [← seen_set P a x ha hx he]
  congr 2
  simp
/-- A reader of which a points are read: block r; its rows are of blocks from B on. -/
structure RdI (w0 : World) (B r : Nat) (s : ByteArray) (p a : Nat) (P Zs : List Int) (aP aS : Option Addr) (cP cS : Nat) (w : World) : Prop where
  blk : Holds w r 58 (rcells s p (.slice aP a cP) (.slice aS a cS) P a)
  rp : w.ownsRow B 3 1 (.slice aP a cP) a (nums .i64 (P.take a))
  rz : w.ownsRow B 3 1 (.slice aS a cS) a (nums .i64 Zs)
  ap : ∀ x, (Value.slice aP a cP).ownBlock = some x → (Value.slice aS a cS).ownBlock ≠ some x
  low : r < B
  top : B ≤ w0.heap.size
  bel : BelowE [r] B w0 w
theorem RdI.size {w0 B r s p a P Zs aP aS cP cS w} (h : RdI w0 B r s p a P Zs aP aS cP cS w) : B ≤ w.heap.size := Nat.le_trans h.top h.bel.size
theorem RdI.made {w0 B r s p a P Zs aP aS cP cS w w'} (h : RdI w0 B r s p a P Zs aP aS cP cS w) (hb : Below w.heap.size w w') : RdI w0 B r s p a P Zs aP aS cP cS w' :=
  ⟨h.blk.below hb h.blk.lt, own_below h.rp hb, own_below h.rz hb, h.ap, h.low, h.top, h.bel.trans ((BelowE.of hb).mono h.size)⟩
theorem RdI.drewN {w0 B r s p a P Zs aP aS cP cS w} (h : RdI w0 B r s p a P Zs aP aS cP cS w) (n : Nat) : RdI w0 B r s p a P Zs aP aS cP cS (w.drewN n) := h.made (Below.drewN (Below.refl _ _) n)
/-- The place moves. -/
theorem RdI.move {w0 B r s p a P Zs aP aS cP cS w} (h : RdI w0 B r s p a P Zs aP aS cP cS w) (q : Nat) : RdI w0 B r s q a P Zs aP aS cP cS (w.setCell ⟨r, 1, none⟩ (.int .i64 q)) := by
  have hb : BelowE [r] w.heap.size w (w.setCell ⟨r, 1, none⟩ (.int .i64 q)) := (BelowE.refl _ _ _).setIn (p := ⟨r, 1, none⟩) (by simp) _
  refine ⟨?_, own_belowE h.rp hb (fun k hk hx => ?_), own_belowE h.rz hb (fun k hk hx => ?_), h.ap, h.low, h.top, h.bel.trans (hb.mono h.size)⟩
  · have := h.blk.set 1 (.int .i64 q)
    rwa [rs1] at this
  · have e : k = r := by simpa using hx
    have := (h.rp.lt k hk).1
    have := h.low
    omega
  · have e : k = r := by simpa using hx
    have := (h.rz.lt k hk).1
    have := h.low
    omega
/-- A text whose bytes from a place on are known. -/
theorem byte_in {s : ByteArray} {p : Nat} {c : UInt8} {l : List UInt8} (h : s.data.toList.drop p = c :: l) : ∃ hp : p < s.size, s[p] = c ∧ s.data.toList.drop (p + 1) = l := by
  have hl : p < s.data.toList.length := by
    rcases Nat.lt_or_ge p s.data.toList.length with h1 | h1
    · exact h1
    · rw [List.drop_of_length_le h1] at h; cases h
  have e := List.drop_eq_getElem_cons hl
  rw [h] at e
  injection e with e1 e2
  refine ⟨by rw [Array.length_toList] at hl; exact hl, ?_, e2.symm⟩
  rw [e1]
  rfl
theorem byte_end {s : ByteArray} {p : Nat} (h : s.data.toList.drop p = []) (hp : p ≤ s.size) : p = s.size := by
  have := List.length_eq_zero_iff.2 h
  rw [List.length_drop, Array.length_toList] at this
  have e : s.data.size = s.size := rfl
  omega
set_option maxHeartbeats 1000000 in
theorem next_yes (w0 : World) (B r : Nat) (s : ByteArray) (p a : Nat) (P Zs : List Int) (aP aS : Option Addr) (cP cS : Nat) (w : World) (h : RdI w0 B r s p a P Zs aP aS cP cS w) (c : UInt8) (l : List UInt8) (hc : s.data.toList.drop p = c :: l) (hs : s.size ≤ 100000) :
    Calls Tryd.prog 44 #[.pointer (some ⟨r, 0, none⟩), .int .u8 (c.toNat : Nat)] w (fun e w' => e = .returned (.bool true) ∧ RdI w0 B r s (p + 1) a P Zs aP aS cP cS w') := by
  obtain ⟨hp, e1, -⟩ := byte_in hc
  have k0 := (h.blk.cell 0).trans (rc0 _ _ _ _ _ _)
  have k1 := (h.blk.cell 1).trans (rc1 _ _ _ _ _ _)
  have f1 := h.blk.free 1
  have hfin : Hid (∀ n, RdI w0 B r s (p + 1) a P Zs aP aS cP cS ((w.drewN n).setCell ⟨r, 1, none⟩ (.int .i64 ((p + 1 : Nat) : Int)))) := Lib.hid (fun n => (h.drewN n).move (p + 1))
  have hne : ((p : Int) == ((s.size : Nat) : Int)) = false := by simp; omega
  have hpi : (p : Int) < ((s.size : Nat) : Int) := by omega
  have hsi : ((s.size : Nat) : Int) ≤ 100000 := by omega
  have hpc : ((p + 1 : Nat) : Int) = (p : Int) + 1 := rfl
  rw [hpc] at hfin
  have e2 : s[p].toNat = c.toNat := by rw [e1]
  have hb : ((s[p].toNat : Int) != ((c.toNat : Nat) : Int)) = false := by rw [e2]; simp
  have hpc' := Lib.hid hpc
  clear h e1 hc e2 hpc
  generalize ((c.toNat : Nat) : Int) = d at *
  go_enter Tryd.func44, Tryd.ntmps44
  go_wp2
  go_quiet (fail)
  go_wp2
  go_ret
  exact ⟨rfl, hfin.out nq⟩
set_option maxHeartbeats 1000000 in
theorem next_no (w0 : World) (B r : Nat) (s : ByteArray) (p a : Nat) (P Zs : List Int) (aP aS : Option Addr) (cP cS : Nat) (w : World) (h : RdI w0 B r s p a P Zs aP aS cP cS w) (c : UInt8) (l : List UInt8) (hc : s.data.toList.drop p = l) (hh : l.head? ≠ some c) (hs : s.size ≤ 100000) (hps : p ≤ s.size) :
    Calls Tryd.prog 44 #[.pointer (some ⟨r, 0, none⟩), .int .u8 (c.toNat : Nat)] w (fun e w' => e = .returned (.bool false) ∧ RdI w0 B r s p a P Zs aP aS cP cS w') := by
  have k0 := (h.blk.cell 0).trans (rc0 _ _ _ _ _ _)
  have k1 := (h.blk.cell 1).trans (rc1 _ _ _ _ _ _)
  have hfin : Hid (∀ n, RdI w0 B r s p a P Zs aP aS cP cS (w.drewN n)) := Lib.hid (fun n => h.drewN n)
  have hsi : ((s.size : Nat) : Int) ≤ 100000 := by omega
  cases l with
  | nil =>
    have hp := byte_end hc hps
    have hne : ((p : Int) == ((s.size : Nat) : Int)) = true := by simp; omega
    clear h hc hh hps
    subst hp
    go_enter Tryd.func44, Tryd.ntmps44
    go_wp2
    go_quiet (fail)
    go_wp2
    go_ret
    exact ⟨rfl, hfin.out nq⟩
  | cons d l =>
    obtain ⟨hp, e1, -⟩ := byte_in hc
    have hne : ((p : Int) == ((s.size : Nat) : Int)) = false := by simp; omega
    have hpi : (p : Int) < ((s.size : Nat) : Int) := by omega
    have hdc : ¬ d = c := by simpa using hh
    have hb : ((s[p].toNat : Int) != ((c.toNat : Nat) : Int)) = true := by
      rw [e1]
      have : d.toNat ≠ c.toNat := fun x => hdc (UInt8.toNat_inj.1 x)
      simp; omega
    clear h e1 hc hh hdc hps
    generalize ((c.toNat : Nat) : Int) = d at *
    go_enter Tryd.func44, Tryd.ntmps44
    go_wp2
    go_quiet (fail)
    go_wp2
    go_ret
    exact ⟨rfl, hfin.out nq⟩

/-- What does not begin with a digit. -/
def noDig (l : List UInt8) : Prop := ∀ c, l.head? = some c → ¬ isDig c
theorem drop_get {s : ByteArray} {p j : Nat} {D l : List UInt8} (h : s.data.toList.drop p = D ++ l) (hj : j < D.length) : s.data.toList.drop (p + j) = D.getD j 0 :: (D.drop (j + 1) ++ l) := by
  rw [← List.drop_drop, h, List.drop_append_of_le_length (by omega), List.drop_eq_getElem_cons hj, List.cons_append, show D.getD j 0 = D[j] by simp [List.getD, hj]]
theorem drop_all {s : ByteArray} {p : Nat} {D l : List UInt8} (h : s.data.toList.drop p = D ++ l) : s.data.toList.drop (p + D.length) = l := by
  rw [← List.drop_drop, h, List.drop_left]
theorem size_of {s : ByteArray} {p : Nat} {D l : List UInt8} (h : s.data.toList.drop p = D ++ l) (hp : p ≤ s.size) : p + D.length + l.length = s.size := by
  have h1 := congrArg List.length h
  rw [List.length_drop, List.length_append, Array.length_toList] at h1
  have e : s.data.size = s.size := rfl
  omega
theorem extract_is {s : ByteArray} {p : Nat} {D l : List UInt8} (h : s.data.toList.drop p = D ++ l) (hp : p ≤ s.size) : s.extract p (p + D.length) = strB D := by
  apply ByteArray.ext
  apply Array.toList_inj.1
  rw [Lib.extract_data]
  have : (s.data.extract p (p + D.length)).toList = (s.data.toList.drop p).take D.length := by
    rw [Array.toList_extract]
    simp [List.extract]
  simp only [strB]
  first
  | (rw [this, h, List.take_left])
  | (simp [h])
theorem dig_in {p : Int} {j : Nat} (hj : j < (digP p).length) : 48 ≤ ((digP p).getD j 0).toNat ∧ ((digP p).getD j 0).toNat ≤ 57 := by
  have : (digP p).getD j 0 ∈ digP p := by rw [show (digP p).getD j 0 = (digP p)[j] by simp [List.getD, hj]]; exact List.getElem_mem hj
  exact digP_dig p _ this
theorem dig_first {p : Int} (h : 1 < (digP p).length) : ((digP p).getD 0 0).toNat ≠ 48 := by
  intro e
  have h1 : (digP p).head? = some 48 := by
    cases q : digP p with
    | nil => rw [q] at h; simp at h
    | cons c l =>
      rw [q] at e
      simp at e ⊢
      exact UInt8.toNat_inj.1 e
  rw [digP_head p h1] at h
  simp at h
theorem parse_dig {p : Int} (h : 0 ≤ p ∧ p ≤ 127) : parseN (digP p) = p ∧ parseE (digP p) = 0 := by
  have e : digP p = showV p := by
    rw [show_mid (by omega) (by omega)]
    unfold digP Lib.itoa
    rw [if_neg (by omega)]
  have q := parseV_show (v := p) (by omega) (by omega)
  rw [← e] at q
  unfold parseN parseE
  rw [q]
  exact ⟨rfl, rfl⟩
/-- What a reader stops with, in a panic. -/
def PanE (x : Int) (w0 : World) (B r : Nat) (e : Ending) (w' : World) : Prop := e = .panicked [{ v := .iface 53 (.agg #[.int .i64 x]), recovered := false }] ∧ BelowE [r] B w0 w'
/-- A reader of which one more point is read. -/
def RdN (w0 : World) (B r : Nat) (s : ByteArray) (p a : Nat) (P Zs : List Int) (e : Ending) (w' : World) : Prop := e = .returned (.tuple #[]) ∧ ∃ aP aS cP cS, RdI w0 B r s p a P Zs aP aS cP cS w'
/-- The point is marked. -/
theorem RdI.mark {w0 B r s p a P Zs aP aS cP cS w} (h : RdI w0 B r s p a P Zs aP aS cP cS w) (x : Nat) (ha : a < P.length) (hx : x < 128) (he : P.getD a 0 = x) :
    Holds (w.setCell ⟨r, 4 + x, none⟩ (.bool true)) r 58 (rcells s p (.slice aP a cP) (.slice aS a cS) P (a + 1)) ∧ (w.setCell ⟨r, 4 + x, none⟩ (.bool true)).ownsRow B 3 1 (.slice aP a cP) a (nums .i64 (P.take a)) ∧ (w.setCell ⟨r, 4 + x, none⟩ (.bool true)).ownsRow B 3 1 (.slice aS a cS) a (nums .i64 Zs) ∧ BelowE [r] B w0 (w.setCell ⟨r, 4 + x, none⟩ (.bool true)) := by
  have hb : BelowE [r] w.heap.size w (w.setCell ⟨r, 4 + x, none⟩ (.bool true)) := (BelowE.refl _ _ _).setIn (p := ⟨r, 4 + x, none⟩) (by simp) _
  refine ⟨?_, own_belowE h.rp hb (fun k hk hx => ?_), own_belowE h.rz hb (fun k hk hx => ?_), h.bel.trans (hb.mono h.size)⟩
  · have := h.blk.set (4 + x) (.bool true)
    rwa [rs4 _ _ _ _ _ _ _ ha hx he] at this
  · have e : k = r := by simpa using hx
    have := (h.rp.lt k hk).1
    have := h.low
    omega
  · have e : k = r := by simpa using hx
    have := (h.rz.lt k hk).1
    have := h.low
    omega
end Go.Proofs.YtpbminoefmpmpaaDoor
