/- One call of a pen: what is written, and what the statement holds against it. -/
import Derived.Test.YtnojapdcdjpebaaCurNobody
namespace Go.Proofs.Ytnojapdcdjpebaa
open Go.RowKit
set_option linter.unusedVariables false

/-- What one call writes. -/
def opB (k n : Int) (s : ByteArray) : List Int :=
  if k = 1 then leb (n % 18446744073709551616).toNat else if k = 2 then leb (zig n).toNat else if k = 3 then [n % 256] else if k = 4 then wordB (n % 4294967296) else if k = 5 then leb s.size ++ codes s else []
theorem opB_bs (k n : Int) (s : ByteArray) : Bs (opB k n s) := by
  unfold opB
  split
  · exact leb_bytes _
  split
  · exact leb_bytes _
  split
  · intro x hx; simp at hx; omega
  split
  · intro x hx; simp [wordB] at hx; omega
  split
  · intro x hx
    rcases List.mem_append.1 hx with hx | hx
    · exact leb_bytes _ x hx
    · exact codes_bs s x hx
  · intro x hx; simp at hx
theorem opB_len (k n : Int) (s : ByteArray) (hn : (Lit.int .i64 n).wf = true) (hs : s.size ≤ 1000) : (opB k n s).length ≤ 1010 := by
  have h1 : U64 (n % 18446744073709551616) := by unfold U64; omega
  have h2 := zig_u64 hn
  have h3 : U64 (s.size : Int) := by unfold U64; omega
  have := h1.le10
  have := h2.2.le10
  have h4 := h3.le10
  simp only [Int.toNat_natCast] at h4
  unfold opB
  (repeat' split) <;> simp [wordB, codes_length] <;> omega
def Puts (g : Nat) (F : List Nat) (l add : List Int) (w : World) (e : Ending) (w' : World) : Prop :=
  ∃ v F', e = .returned v ∧ Pn w' g F' (l ++ add) ∧ Turns F F' w w' ∧ w'.ownsRow w.heap.size 5 1 v add.length (nums .u8 add) ∧ ∀ k, v.ownBlock = some k → k ∉ F'
theorem Turns.before {F F' : List Nat} {w w1 w' : World} (hb : Below w.heap.size w w1) (h : Turns F F' w1 w') : Turns F F' w w' :=
  ⟨(BelowE.of hb).trans (h.1.mono hb.size), fun x hx => (h.2 x hx).imp id fun h => Nat.le_trans hb.size h⟩
theorem Turns.after {F F' : List Nat} {w w1 w' : World} (h : Turns F F' w w1) (hb : Below w1.heap.size w1 w') : Turns F F' w w' :=
  ⟨h.1.trans ((BelowE.of hb).mono h.1.size), h.2⟩
theorem Pn.all {w : World} {g : Nat} {F : List Nat} {l : List Int} (h : Pn w g F l) : ∀ x ∈ F, x < w.heap.size := by
  obtain ⟨v, _, _, _, _, h5⟩ := h; exact h5

theorem puts_1 (g : Nat) (F : List Nat) (l : List Int) (hl : l.length ≤ 1000000) (n : Int) (hn : (Lit.int .i64 n).wf = true) (s : ByteArray) (hs : s.size ≤ 1000) (w : World) (h : Pn w g F l) :
    Calls Try.prog 14 #[.pointer (some ⟨g, 0, none⟩), .agg #[.int .i64 1, .int .i64 n, .string s]] w (Puts g F l (leb (n % 18446744073709551616).toNat) w) := by
  have hn2 := i64_wf hn
  have hB : Below w.heap.size w (w.alloc (.cells #[.int .i64 1, .int .i64 n, .string s] 33)) := (Below.refl _ _).alloc (Nat.le_refl _) _
  have k1 : (w.alloc (.cells #[.int .i64 1, .int .i64 n, .string s] 33)).cell? ⟨w.heap.size, 1, none⟩ = some (.int .i64 n) := by simp [go_sem]
  have k2 : (w.alloc (.cells #[.int .i64 1, .int .i64 n, .string s] 33)).cell? ⟨w.heap.size, 2, none⟩ = some (.string s) := by simp [go_sem]
  have hall := h.all
  have hcall := Lib.hid (pu_any g F l (n % 18446744073709551616) (w.alloc (.cells #[.int .i64 1, .int .i64 n, .string s] 33)) (h.below hB) (by omega) (by unfold U64; omega) (by omega))
  have hB' := Lib.hid hB
  clear hB h
  go_enter Try.func14, Try.ntmps14
  go_wp2_with fail
  generalize (w.alloc (.cells #[.int .i64 1, .int .i64 n, .string s] 33)) = W at *
  have hg : w.heap.size < W.heap.size := World.block_lt_of_cell? W _ k1
  refine hcall.out.mono ?_
  rintro e w1 ⟨rfl, F1, hp1, ht1⟩
  have hgF : w.heap.size ∉ F := fun hm => by have := hall _ hm; omega
  have k1' := (ht1.1.cell (p := ⟨w.heap.size, 1, none⟩) hg hgF).trans k1
  have k2' := (ht1.1.cell (p := ⟨w.heap.size, 2, none⟩) hg hgF).trans k2
  go_wp2_with fail
  refine (refput_any (n % 18446744073709551616) w1 (by omega) (by unfold U64; omega)).mono ?_
  rintro e w2 ⟨v, rfl, hown, hb2⟩
  go_wp2
  go_ret
  have hs1 : w.heap.size ≤ w1.heap.size := Nat.le_trans hB'.out.size ht1.1.size
  refine ⟨v, F1, rfl, hp1.below hb2, (Turns.before hB'.out ht1).after hb2, own_from hown fun k hk => Nat.le_trans hs1 (hown.lt k hk).1, fun k hk hm => ?_⟩
  have := hp1.all k hm
  have := (hown.lt k hk).1
  omega

theorem puts_2 (g : Nat) (F : List Nat) (l : List Int) (hl : l.length ≤ 1000000) (n : Int) (hn : (Lit.int .i64 n).wf = true) (s : ByteArray) (hs : s.size ≤ 1000) (w : World) (h : Pn w g F l) :
    Calls Try.prog 14 #[.pointer (some ⟨g, 0, none⟩), .agg #[.int .i64 2, .int .i64 n, .string s]] w (Puts g F l (leb (zig n).toNat) w) := by
  have hn2 := i64_wf hn
  have hB : Below w.heap.size w (w.alloc (.cells #[.int .i64 2, .int .i64 n, .string s] 33)) := (Below.refl _ _).alloc (Nat.le_refl _) _
  have k1 : (w.alloc (.cells #[.int .i64 2, .int .i64 n, .string s] 33)).cell? ⟨w.heap.size, 1, none⟩ = some (.int .i64 n) := by simp [go_sem]
  have k2 : (w.alloc (.cells #[.int .i64 2, .int .i64 n, .string s] 33)).cell? ⟨w.heap.size, 2, none⟩ = some (.string s) := by simp [go_sem]
  have hall := h.all
  have hcall := Lib.hid (pi_any g F l n (w.alloc (.cells #[.int .i64 2, .int .i64 n, .string s] 33)) (h.below hB) hn (by omega))
  have hB' := Lib.hid hB
  clear hB h
  go_enter Try.func14, Try.ntmps14
  go_wp2_with fail
  generalize (w.alloc (.cells #[.int .i64 2, .int .i64 n, .string s] 33)) = W at *
  have hg : w.heap.size < W.heap.size := World.block_lt_of_cell? W _ k1
  refine hcall.out.mono ?_
  rintro e w1 ⟨rfl, F1, hp1, ht1⟩
  have hgF : w.heap.size ∉ F := fun hm => by have := hall _ hm; omega
  have k1' := (ht1.1.cell (p := ⟨w.heap.size, 1, none⟩) hg hgF).trans k1
  have k2' := (ht1.1.cell (p := ⟨w.heap.size, 2, none⟩) hg hgF).trans k2
  go_wp2_with fail
  refine (refputint_any n w1 hn).mono ?_
  rintro e w2 ⟨v, rfl, hown, hb2⟩
  go_wp2
  go_ret
  have hs1 : w.heap.size ≤ w1.heap.size := Nat.le_trans hB'.out.size ht1.1.size
  refine ⟨v, F1, rfl, hp1.below hb2, (Turns.before hB'.out ht1).after hb2, own_from hown fun k hk => Nat.le_trans hs1 (hown.lt k hk).1, fun k hk hm => ?_⟩
  have := hp1.all k hm
  have := (hown.lt k hk).1
  omega

theorem puts_3 (g : Nat) (F : List Nat) (l : List Int) (hl : l.length ≤ 1000000) (n : Int) (hn : (Lit.int .i64 n).wf = true) (s : ByteArray) (hs : s.size ≤ 1000) (w : World) (h : Pn w g F l) :
    Calls Try.prog 14 #[.pointer (some ⟨g, 0, none⟩), .agg #[.int .i64 3, .int .i64 n, .string s]] w (Puts g F l ([n % 256]) w) := by
  have hn2 := i64_wf hn
  have hB : Below w.heap.size w (w.alloc (.cells #[.int .i64 3, .int .i64 n, .string s] 33)) := (Below.refl _ _).alloc (Nat.le_refl _) _
  have k1 : (w.alloc (.cells #[.int .i64 3, .int .i64 n, .string s] 33)).cell? ⟨w.heap.size, 1, none⟩ = some (.int .i64 n) := by simp [go_sem]
  have k2 : (w.alloc (.cells #[.int .i64 3, .int .i64 n, .string s] 33)).cell? ⟨w.heap.size, 2, none⟩ = some (.string s) := by simp [go_sem]
  have hall := h.all
  have hcall := Lib.hid (pbyte_any g F l n (w.alloc (.cells #[.int .i64 3, .int .i64 n, .string s] 33)) (h.below hB) (by omega))
  have hB' := Lib.hid hB
  clear hB h
  go_enter Try.func14, Try.ntmps14
  go_wp2_with fail
  generalize (w.alloc (.cells #[.int .i64 3, .int .i64 n, .string s] 33)) = W at *
  have hg : w.heap.size < W.heap.size := World.block_lt_of_cell? W _ k1
  refine hcall.out.mono ?_
  rintro e w1 ⟨rfl, F1, hp1, ht1⟩
  have hgF : w.heap.size ∉ F := fun hm => by have := hall _ hm; omega
  have k1' := (ht1.1.cell (p := ⟨w.heap.size, 1, none⟩) hg hgF).trans k1
  have k2' := (ht1.1.cell (p := ⟨w.heap.size, 2, none⟩) hg hgF).trans k2
  go_wp2_with fail
  go_ret
  have hs1 : w.heap.size ≤ w1.heap.size := Nat.le_trans hB'.out.size ht1.1.size
  have hown := own_lit w1 5 .u8 [n % 256] #[.int .u8 (n % 256)] rfl (by simp [maxLen]) 1 rfl
  have hb2 := (Below.refl w1.heap.size w1).alloc (Nat.le_refl _) (.cells #[.int .u8 (n % 256)] 5)
  refine ⟨_, F1, rfl, hp1.below hb2, (Turns.before hB'.out ht1).after hb2, own_from hown fun k hk => Nat.le_trans hs1 (hown.lt k hk).1, fun k hk hm => ?_⟩
  have := hp1.all k hm
  have := (hown.lt k hk).1
  omega

theorem puts_4 (g : Nat) (F : List Nat) (l : List Int) (hl : l.length ≤ 1000000) (n : Int) (hn : (Lit.int .i64 n).wf = true) (s : ByteArray) (hs : s.size ≤ 1000) (w : World) (h : Pn w g F l) :
    Calls Try.prog 14 #[.pointer (some ⟨g, 0, none⟩), .agg #[.int .i64 4, .int .i64 n, .string s]] w (Puts g F l (wordB (n % 4294967296)) w) := by
  have hn2 := i64_wf hn
  have hB : Below w.heap.size w (w.alloc (.cells #[.int .i64 4, .int .i64 n, .string s] 33)) := (Below.refl _ _).alloc (Nat.le_refl _) _
  have k1 : (w.alloc (.cells #[.int .i64 4, .int .i64 n, .string s] 33)).cell? ⟨w.heap.size, 1, none⟩ = some (.int .i64 n) := by simp [go_sem]
  have k2 : (w.alloc (.cells #[.int .i64 4, .int .i64 n, .string s] 33)).cell? ⟨w.heap.size, 2, none⟩ = some (.string s) := by simp [go_sem]
  have hall := h.all
  have hcall := Lib.hid (pword_any g F l (n % 4294967296) (w.alloc (.cells #[.int .i64 4, .int .i64 n, .string s] 33)) (h.below hB) (by omega) (by omega) (by omega))
  have hB' := Lib.hid hB
  clear hB h
  go_enter Try.func14, Try.ntmps14
  go_wp2_with fail
  generalize (w.alloc (.cells #[.int .i64 4, .int .i64 n, .string s] 33)) = W at *
  have hg : w.heap.size < W.heap.size := World.block_lt_of_cell? W _ k1
  refine hcall.out.mono ?_
  rintro e w1 ⟨rfl, F1, hp1, ht1⟩
  have hgF : w.heap.size ∉ F := fun hm => by have := hall _ hm; omega
  have k1' := (ht1.1.cell (p := ⟨w.heap.size, 1, none⟩) hg hgF).trans k1
  have k2' := (ht1.1.cell (p := ⟨w.heap.size, 2, none⟩) hg hgF).trans k2
  go_wp2_with fail
  refine (refnum_word (n % 4294967296) w1 (by omega) (by omega)).mono ?_
  rintro e w2 ⟨v, rfl, hown, hb2⟩
  go_wp2
  go_ret
  have hs1 : w.heap.size ≤ w1.heap.size := Nat.le_trans hB'.out.size ht1.1.size
  refine ⟨v, F1, rfl, hp1.below hb2, (Turns.before hB'.out ht1).after hb2, own_from hown fun k hk => Nat.le_trans hs1 (hown.lt k hk).1, fun k hk hm => ?_⟩
  have := hp1.all k hm
  have := (hown.lt k hk).1
  omega

theorem puts_5 (g : Nat) (F : List Nat) (l : List Int) (hl : l.length ≤ 1000000) (n : Int) (hn : (Lit.int .i64 n).wf = true) (s : ByteArray) (hs : s.size ≤ 1000) (w : World) (h : Pn w g F l) :
    Calls Try.prog 14 #[.pointer (some ⟨g, 0, none⟩), .agg #[.int .i64 5, .int .i64 n, .string s]] w (Puts g F l (leb s.size ++ codes s) w) := by
  have hn2 := i64_wf hn
  have hB : Below w.heap.size w (w.alloc (.cells #[.int .i64 5, .int .i64 n, .string s] 33)) := (Below.refl _ _).alloc (Nat.le_refl _) _
  have k1 : (w.alloc (.cells #[.int .i64 5, .int .i64 n, .string s] 33)).cell? ⟨w.heap.size, 1, none⟩ = some (.int .i64 n) := by simp [go_sem]
  have k2 : (w.alloc (.cells #[.int .i64 5, .int .i64 n, .string s] 33)).cell? ⟨w.heap.size, 2, none⟩ = some (.string s) := by simp [go_sem]
  have hall := h.all
  have hcall := Lib.hid (ptext_any g F l s (w.alloc (.cells #[.int .i64 5, .int .i64 n, .string s] 33)) (h.below hB) (by omega) (by omega) (by omega))
  have hB' := Lib.hid hB
  clear hB h
  go_enter Try.func14, Try.ntmps14
  go_wp2_with fail
  generalize (w.alloc (.cells #[.int .i64 5, .int .i64 n, .string s] 33)) = W at *
  have hg : w.heap.size < W.heap.size := World.block_lt_of_cell? W _ k1
  refine hcall.out.mono ?_
  rintro e w1 ⟨rfl, F1, hp1, ht1⟩
  have hgF : w.heap.size ∉ F := fun hm => by have := hall _ hm; omega
  have k1' := (ht1.1.cell (p := ⟨w.heap.size, 1, none⟩) hg hgF).trans k1
  have k2' := (ht1.1.cell (p := ⟨w.heap.size, 2, none⟩) hg hgF).trans k2
  go_wp2_with fail
  refine (reftext_any s w1 (by omega)).mono ?_
  rintro e w2 ⟨v, rfl, hown, hb2⟩
  go_wp2
  go_ret
  have hs1 : w.heap.size ≤ w1.heap.size := Nat.le_trans hB'.out.size ht1.1.size
  refine ⟨v, F1, rfl, hp1.below hb2, (Turns.before hB'.out ht1).after hb2, own_from hown fun k hk => Nat.le_trans hs1 (hown.lt k hk).1, fun k hk hm => ?_⟩
  have := hp1.all k hm
  have := (hown.lt k hk).1
  omega

theorem puts_else (k : Int) (hk : k ≠ 1 ∧ k ≠ 2 ∧ k ≠ 3 ∧ k ≠ 4 ∧ k ≠ 5) (g : Nat) (F : List Nat) (l : List Int) (n : Int) (s : ByteArray) (w : World) (h : Pn w g F l) :
    Calls Try.prog 14 #[.pointer (some ⟨g, 0, none⟩), .agg #[.int .i64 k, .int .i64 n, .string s]] w (Puts g F l [] w) := by
  have b1 : (k == 1) = false := by simpa using hk.1
  have b2 : (k == 2) = false := by simpa using hk.2.1
  have b3 : (k == 3) = false := by simpa using hk.2.2.1
  have b4 : (k == 4) = false := by simpa using hk.2.2.2.1
  have b5 : (k == 5) = false := by simpa using hk.2.2.2.2
  have hB : Below w.heap.size w (w.alloc (.cells #[.int .i64 k, .int .i64 n, .string s] 33)) := (Below.refl _ _).alloc (Nat.le_refl _) _
  have hp := Lib.hid (h.below hB)
  have hB' := Lib.hid hB
  clear hk h hB
  go_enter Try.func14, Try.ntmps14
  go_wp2
  go_ret
  exact ⟨_, F, rfl, by rw [List.append_nil]; exact hp.out, ⟨BelowE.of hB'.out, fun x hx => .inl hx⟩, ⟨rfl, .inl ⟨rfl, rfl⟩⟩, fun k hk => by simp [Value.ownBlock] at hk⟩
theorem puts_any (k : Int) (g : Nat) (F : List Nat) (l : List Int) (hl : l.length ≤ 1000000) (n : Int) (hn : (Lit.int .i64 n).wf = true) (s : ByteArray) (hs : s.size ≤ 1000) (w : World) (h : Pn w g F l) :
    Calls Try.prog 14 #[.pointer (some ⟨g, 0, none⟩), .agg #[.int .i64 k, .int .i64 n, .string s]] w (Puts g F l (opB k n s) w) := by
  by_cases h1 : k = 1
  · subst h1; exact puts_1 g F l hl n hn s hs w h
  by_cases h2 : k = 2
  · subst h2; exact puts_2 g F l hl n hn s hs w h
  by_cases h3 : k = 3
  · subst h3; exact puts_3 g F l hl n hn s hs w h
  by_cases h4 : k = 4
  · subst h4; exact puts_4 g F l hl n hn s hs w h
  by_cases h5 : k = 5
  · subst h5; exact puts_5 g F l hl n hn s hs w h
  have : opB k n s = [] := by simp [opB, h1, h2, h3, h4, h5]
  rw [this]
  exact puts_else k ⟨h1, h2, h3, h4, h5⟩ g F l n s w h
end Go.Proofs.Ytnojapdcdjpebaa
