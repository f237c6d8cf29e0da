/- Sections' bytes: the document's head, one, Put; sect.Put; sect.Find. -/
import Derived.Test.YtnjdgnlgdokddaaSectRefA
import Derived.Test.YtnjdgnlgdokddaaCurPens
import Derived.Test.YtnjdgnlgdokddaaCrcMore
import Derived.Test.YtnjdgnlgdokddaaDrawn
import Derived.ArgAppend
import Derived.Lib.SlBytesConst
namespace Go.Proofs.Ytnjdgnlgdokddaa
open Go.RowKit
set_option linter.unusedVariables false
set_option linter.unusedSimpArgs false

/-- A section's bytes. -/
def oneH (t : Int) (b : List Int) : List Int := [t % 256] ++ (leb b.length ++ b)
def oneL (t : Int) (b : List Int) : List Int := oneH t b ++ wordB ((csum 0 (oneH t b) : Nat) : Int)
def headL : List Int := [65, 73, 82, 88, 1]
def bodyL (l : List (Int × List Int)) : List Int := l.flatMap fun s => oneL s.1 s.2
def putL (l : List (Int × List Int)) : List Int := headL ++ bodyL l
theorem wordB_bs {n : Int} (h0 : 0 ≤ n) (h1 : n ≤ 4294967295) : Bs (wordB n) := by
  intro x hx
  simp only [wordB, List.mem_cons, List.not_mem_nil, or_false] at hx
  rcases hx with rfl | rfl | rfl | rfl <;> omega
theorem csum_le {l : List Int} (h : Bs l) : (csum 0 l : Int) ≤ 4294967295 := by unfold csum; omega
theorem oneH_bs (t : Int) {b : List Int} (h : Bs b) : Bs (oneH t b) := by
  intro x hx
  simp only [oneH, List.mem_append, List.mem_cons, List.not_mem_nil, or_false] at hx
  rcases hx with rfl | hx | hx
  · omega
  · exact leb_bytes _ x hx
  · exact h x hx
theorem oneL_bs (t : Int) {b : List Int} (h : Bs b) : Bs (oneL t b) := by
  intro x hx
  rcases List.mem_append.1 hx with hx | hx
  · exact oneH_bs t h x hx
  · exact wordB_bs (by omega) (csum_le (oneH_bs t h)) x hx
theorem oneH_len (t : Int) (b : List Int) (hb : b.length ≤ 9223372036854775807) : (oneH t b).length ≤ b.length + 11 ∧ 2 + b.length ≤ (oneH t b).length := by
  have h1 := leb_len64 (n := b.length) (by omega)
  have h2 := leb_pos b.length
  simp only [oneH, List.length_append, List.length_cons, List.length_nil]; omega
theorem wordB_len (n : Int) : (wordB n).length = 4 := rfl
theorem oneL_len (t : Int) (b : List Int) (hb : b.length ≤ 9223372036854775807) : (oneL t b).length ≤ b.length + 15 ∧ 6 + b.length ≤ (oneL t b).length := by
  have := oneH_len t b hb
  simp only [oneL, List.length_append, wordB_len]; omega

theorem conv_const' (W : World) (C : Array Value) (n c h : Nat) (hh : h = W.heap.size) : (convert 25 25 (.slice (some ⟨h, 0, none⟩) n c)).run Try.prog (W.alloc (.cells C 5)) = .ok (.slice (some ⟨h, 0, none⟩) n c) (W.alloc (.cells C 5 (C.size, C.size + 1))) := by
  subst hh; exact Lib.run_convert_bytes_const W 25 5 C n c Try.underlying25 Try.underlying5

/-- What a call hands back: a slice that reads as l, in new memory or not; nothing of what was there has turned. -/
def MadeS (w : World) (l : List Int) (e : Ending) (w' : World) : Prop := ∃ a c, e = .returned (.slice a l.length c) ∧ l.length ≤ c ∧ Sees .u8 w'.heap.size w' a l ∧ Below w.heap.size w w'
/-- A row of bytes to which is appended: one's own, or one that is full. -/
def OutR (base : Nat) (w : World) (v : Value) (l : List Int) : Prop := w.ownsRow base 5 1 v l.length (nums .u8 l) ∨ ∃ a, v = .slice (some a) l.length l.length ∧ Sees .u8 w.heap.size w (some a) l
theorem OutR.below {base : Nat} {w w' : World} {v : Value} {l : List Int} (h : OutR base w v l) (hb : Below w.heap.size w w') : OutR base w' v l := by
  rcases h with h | ⟨a, h1, h2⟩
  · exact .inl (own_below h hb)
  · exact .inr ⟨a, h1, (h2.below hb).mono hb.size⟩
theorem OutR.slice {base : Nat} {w : World} {v : Value} {l : List Int} (h : OutR base w v l) : ∃ a c, v = .slice a l.length c ∧ l.length ≤ c ∧ Sees .u8 w.heap.size w a l := by
  rcases h with h | ⟨a, rfl, h2⟩
  · obtain ⟨a, c, rfl, -, hs⟩ := sees_own h
    exact ⟨a, c, rfl, own_cap h, hs⟩
  · exact ⟨some a, _, rfl, Nat.le_refl _, h2⟩
theorem sees_cells {w : World} {B : Nat} {a : Addr} {l : List Int} (h : Sees .u8 B w (some a) l) : ∀ j u, (nums .u8 l)[j]? = some u → w.cell? (a.add j) = some u := by
  intro j u hj
  have hjl : j < l.length := by have := (List.getElem?_eq_some_iff.1 hj).1; simpa [nums] using this
  rcases h with rfl | ⟨b, off, ha, _, hc⟩
  · simp at hjl
  · injection ha with ha
    subst ha
    have h2 : (⟨b, off, none⟩ : Addr).add j = ⟨b, off + j, none⟩ := by unfold Addr.add; split <;> simp_all
    rw [h2, hc j hjl]
    simp [nums, hjl] at hj
    simp [List.getD, hjl, hj]
theorem wpList_append_out {w0 w : World} {ops : Array Oper} {rest : List Oper} {o : Oper} {a : Act} {Q : Exit → Act → World → Prop}
    (hg : o.guard = none) (s x : Operand) (hop : o.op = Op.call { callee := Callee.builtin Builtin.append, args := #[s, x], argTypes := #[25, 25] })
    (v : Value) (l : List Int) (hout : OutR w0.heap.size w v l) (hb : Below w0.heap.size w0 w)
    (A : Option Addr) (r : List Int) (m c : Nat) (hm : m = r.length) (hr : 0 < r.length) (hse : Sees .u8 w.heap.size w A r)
    (hsv : a.eval s = v) (hx : a.eval x = .slice A m c) (hn : l.length + r.length ≤ 140737488355328)
    (hK : ∀ v' w', w'.ownsRow w0.heap.size 5 1 v' (l ++ r).length (nums .u8 (l ++ r)) → Below w0.heap.size w0 w' → wpList Try.prog ops Q rest (a.put o.dst v') w') : wpList Try.prog ops Q (o :: rest) a w := by
  obtain ⟨i0, hi, hz0, hz1, hz2⟩ := info_parts infoU8
  rcases hout with hown | ⟨ad, rfl, hs⟩
  · refine wpList_append_foot w hg s x 25 hop 5 i0 (.int .u8 0) 1 Try.underlying25 hi hz0 hz1 hz2 rfl .u8 v l (own_zero hown) _ A r hse m c hm hsv hx (by simp [maxLen]; omega) (by omega) ?_
    intro v' w' hown3 hgrow hblk
    refine hK v' w' (own_from hown3 fun k hk => ?_) (hb.grown hgrow hb.size fun k hk => (hown.lt k hk).1)
    rcases hblk with h | h
    · rw [h] at hk; exact (hown.lt k hk).1
    · rw [h] at hk; injection hk with hk; have := hb.size; omega
  · subst hm
    obtain ⟨b', off', hA, -⟩ : ∃ b off, A = some ⟨b, off, none⟩ ∧ True := by
      rcases hse with h | ⟨b, off, h, _⟩
      · rw [h] at hr; simp at hr
      · exact ⟨b, off, h, trivial⟩
    subst hA
    refine wpList_append_grows w hg s x 25 hop 5 i0 (.int .u8 0) 1 1 Try.underlying25 hi hz0 hz1 hz2 rfl (by decide) (some ad) l.length l.length (nums .u8 l) hsv (by intro h; cases h) (by simp [nums])
      (by intro b hb2; injection hb2 with hb2; subst hb2; exact sees_cells hs) ⟨b', off', none⟩ r.length c (nums .u8 r) hx (by simp [nums]) (sees_cells hse) (by intro u hu; obtain ⟨y, _, rfl⟩ := List.mem_map.1 hu; rfl) (by omega) (by simp [maxLen]; omega) (by omega) ?_
    intro v' w' hown3 hgrow
    have e1 : nums .u8 l ++ nums .u8 r = nums .u8 (l ++ r) := by simp [nums]
    rw [e1] at hown3
    refine hK v' w' ?_ (hb.grown hgrow hb.size (by intro k hk; simp at hk))
    rw [List.length_append]
    exact own_from hown3 fun k hk => Nat.le_trans hb.size (hown3.lt k hk).1

theorem rwrd_any (n : Int) (w : World) (h0 : 0 ≤ n) (h1 : n ≤ 4294967295) :
    Calls Try.prog 19 #[.int .u32 n] w (Made 5 .u8 w (wordB n)) := by
  go_enter Try.func19, Try.ntmps19
  go_wp2
  go_ret
  exact ⟨_, rfl, own_lit w 5 .u8 (wordB n) _ rfl (by simp [wordB, maxLen]) 4 rfl, (Below.refl _ _).alloc (Nat.le_refl _) _⟩
theorem head_any (w : World) : Calls Try.prog 29 #[] w (Made 5 .u8 w headL) := by
  have hcs := conv_const'
  have hB0 : Below w.heap.size w (w.alloc (.cells #[.int .u8 65, .int .u8 73, .int .u8 82, .int .u8 88] 5 (4, 5))) := (Below.refl _ _).alloc (Nat.le_refl _) _
  have hs0 : Sees .u8 (w.alloc (.cells #[.int .u8 65, .int .u8 73, .int .u8 82, .int .u8 88] 5 (4, 5))).heap.size (w.alloc (.cells #[.int .u8 65, .int .u8 73, .int .u8 82, .int .u8 88] 5 (4, 5))) (some ⟨w.heap.size, 0, none⟩) [65, 73, 82, 88] := by
    have := sees_new .u8 w 5 [65, 73, 82, 88] #[.int .u8 65, .int .u8 73, .int .u8 82, .int .u8 88] rfl (4, 5)
    simpa using this
  have hout0 : OutR w.heap.size (w.alloc (.cells #[.int .u8 65, .int .u8 73, .int .u8 82, .int .u8 88] 5 (4, 5))) (.slice (some ⟨w.heap.size, 0, none⟩) 4 4) [65, 73, 82, 88] := .inr ⟨_, rfl, hs0⟩
  have hout0' := Lib.hid hout0
  have hB0' := Lib.hid hB0
  clear hs0 hout0 hB0
  go_enter Try.func29, Try.ntmps29
  go_wp2_with (at_builtin; go_loud (refine wpList_append_out (w0 := w) rfl (.tmp 2) (.tmp 3) rfl (.slice (some ⟨w.heap.size, 0, none⟩) 4 4) [65, 73, 82, 88] (hout0'.out.below (below_box _ _ _)) (hB0'.out.trans ((below_box _ _ _).mono hB0'.out.size)) _ [1] 1 1 rfl (by decide) (sees_four _ 5 [1] #[.int .u8 1] rfl) rfl (by simp [go_sem]) (by simp) ?_); intro v' w1 own1 b1)
  go_ret
  exact ⟨_, rfl, own1, b1⟩

set_option maxRecDepth 100000 in
set_option maxHeartbeats 4000000 in
/-- A section's bytes, as the document makes them. -/
theorem rone_any (s : Sc) (w : World) (h : ScOK w.heap.size w s) (hb : s.b.length ≤ 100000000) :
    Calls Try.prog 30 #[.agg #[.int .i64 s.tag, .slice s.a s.m s.c]] w (Made 5 .u8 w (oneL s.tag s.b)) := by
  obtain ⟨i0, hi, hz0, hz1, hz2⟩ := info_parts infoU8
  obtain ⟨hwf, hm, hmc, hcm, hbs, hse⟩ := h
  obtain ⟨W1, hW1⟩ : ∃ W1, W1 = w.alloc (.cells #[.int .i64 s.tag, .slice s.a s.m s.c] 39) := ⟨_, rfl⟩
  have hB : Below w.heap.size w W1 := by rw [hW1]; exact below_box _ _ _
  have k0 : W1.cell? ⟨w.heap.size, 0, none⟩ = some (.int .i64 s.tag) := by rw [hW1]; simp [go_sem]
  have k1 : W1.cell? ⟨w.heap.size, 1, none⟩ = some (.slice s.a s.m s.c) := by rw [hW1]; simp [go_sem]
  have kl : w.heap.size < W1.heap.size := World.block_lt_of_cell? _ _ k0
  have hse1 := (hse.below hB).mono hB.size
  have hB' := Lib.hid hB
  have hW1' := Lib.hid hW1
  have hH := oneH_bs s.tag hbs
  have hHl := oneH_len s.tag s.b (by omega)
  have htx := Lib.hid (fun W => rtxt_any (strOfNums s.b) W (by rw [strOfNums_size]; omega))
  rw [show leb (strOfNums s.b).size ++ codes (strOfNums s.b) = leb s.b.length ++ s.b by rw [codes_str hbs, ← codes_length, codes_str hbs]] at htx
  have hlt : (leb s.b.length ++ s.b).length ≤ 100000020 := by simp [oneH] at hHl ⊢; omega
  have hlt' := Lib.hid hlt
  have hsum := Lib.hid (fun (a : Option Addr) (c : Nat) (W : World) (hs : Sees .u8 W.heap.size W a (oneH s.tag s.b)) => refsum_any a (oneH s.tag s.b) (oneH s.tag s.b).length c rfl W.heap.size W (by unfold maxLen; omega) hH hs)
  have hwd := Lib.hid (fun W => rwrd_any ((csum 0 (oneH s.tag s.b) : Nat) : Int) W (by omega) (csum_le hH))
  have hfin : Hid ((oneH s.tag s.b).length + 4 ≤ 140737488355328) := Lib.hid (by omega)
  have hwl := Lib.hid (wordB_len ((csum 0 (oneH s.tag s.b) : Nat) : Int))
  unfold oneL
  have hHe : Hid ([s.tag % 256] ++ (leb s.b.length ++ s.b) = oneH s.tag s.b) := Lib.hid rfl
  clear hse hH hHl hb hB hlt hbs hW1
  generalize oneH s.tag s.b = H at *
  generalize ((csum 0 H : Nat) : Int) = cs at *
  generalize leb s.b.length ++ s.b = T at *
  have hcv0 : ∀ W, Below W1.heap.size W1 W → (convert 25 9 (.slice s.a s.m s.c)).run Try.prog W = .ok (.string (strOfNums s.b)) W := fun W hW => conv_sees _ 9 5 Try.underlying25 Try.underlying5 Try.underlying9 (hse1.below hW) s.m s.c hm
  have hcv1 : ∀ W, Below W1.heap.size W1 W → W.cell? ⟨w.heap.size, 1, none⟩ = some (.slice s.a s.m s.c) := fun W hW => (hW.cell (p := ⟨w.heap.size, 1, none⟩) kl).trans k1
  have hcv2 : ∀ W, Below W1.heap.size W1 W → W.cell? ⟨w.heap.size, 0, none⟩ = some (.int .i64 s.tag) := fun W hW => (hW.cell (p := ⟨w.heap.size, 0, none⟩) kl).trans k0
  clear hse1 k0 k1 kl
  generalize strOfNums s.b = sb at *
  generalize s.tag = tg at *
  generalize s.a = ad at *
  generalize s.m = mm at *
  generalize s.c = cc at *
  have hwr : IntKind.u8.wrap tg = tg % 256 := IntKind.wrap_u8 tg
  clear hm hmc hcm hwf
  go_enter Try.func30, Try.ntmps30
  go_wp2
  rw [← hW1'.out]
  have hsz : Below W1.heap.size W1 W1.drew := (Below.refl _ _).drew
  have hall : Below W1.heap.size W1 W1.drew := hsz
  refine wp_drawn_on (fun W' => Below W1.heap.size W1 W') (by kernel_rfl) ((Below.refl _ _).drew) (fun hHeld => ?_)
  generalize W1.drew = W2 at hsz hall hHeld ⊢
  refine wpAnyH_take (i := 0) (oi := { dst := some 4, op := Go.Op.fieldAddr 39 (Go.Operand.tmp 1) 0, type := 0, pos := "ref.go:15", after := #[], guard := none }) (v := ?v1) rfl (by kernel_rfl) (by kernel_rfl) (by kernel_rfl) (fun _ _ _ h => h) (Or.inl ⟨by kernel_rfl, ?h1⟩) (by assumption) ?r1
  case h1 => (intro w hSw; (try dsimp only at hSw); go_simp; try with_reducible rfl)
  try simp only [Act.put, List.setIfInBounds_toArray, List.set_cons_zero, List.set_cons_succ]
  refine wpAnyH_take (i := 1) (oi := { dst := some 5, op := Go.Op.load 3 (Go.Operand.tmp 4), type := 3, pos := "ref.go:15", after := #[{ on := 0, ground := Go.Ground.data }], guard := none }) (v := ?v2) rfl (by kernel_rfl) (by kernel_rfl) (by kernel_rfl) (fun _ _ _ h => h) (Or.inl ⟨by kernel_rfl, ?h2⟩) (by assumption) ?r2
  case h2 => (intro w hSw; (try dsimp only at hSw); go_simp; try with_reducible rfl)
  try simp only [Act.put, List.setIfInBounds_toArray, List.set_cons_zero, List.set_cons_succ]
  refine wpAnyH_take (i := 2) (oi := { dst := some 6, op := Go.Op.convert 3 5 (Go.Operand.tmp 5), type := 5, pos := "ref.go:15", after := #[{ on := 1, ground := Go.Ground.data }], guard := none }) (v := ?v3) rfl (by kernel_rfl) (by kernel_rfl) (by kernel_rfl) (fun _ _ _ h => h) (Or.inl ⟨by kernel_rfl, ?h3⟩) (by assumption) ?r3
  case h3 => (intro w hSw; (try dsimp only at hSw); go_simp; try with_reducible rfl)
  try simp only [Act.put, List.setIfInBounds_toArray, List.set_cons_zero, List.set_cons_succ]
  refine wpAnyH_take (i := 4) (oi := { dst := some 8, op := Go.Op.fieldAddr 39 (Go.Operand.tmp 1) 1, type := 0, pos := "ref.go:15", after := #[], guard := none }) (v := ?v4) rfl (by kernel_rfl) (by kernel_rfl) (by kernel_rfl) (fun _ _ _ h => h) (Or.inl ⟨by kernel_rfl, ?h4⟩) (by assumption) ?r4
  case h4 => (intro w hSw; (try dsimp only at hSw); go_simp; try with_reducible rfl)
  try simp only [Act.put, List.setIfInBounds_toArray, List.set_cons_zero, List.set_cons_succ]
  refine wpAnyH_take (i := 5) (oi := { dst := some 9, op := Go.Op.load 25 (Go.Operand.tmp 8), type := 25, pos := "ref.go:15", after := #[{ on := 4, ground := Go.Ground.data }], guard := none }) (v := ?v5) rfl (by kernel_rfl) (by kernel_rfl) (by kernel_rfl) (fun _ _ _ h => h) (Or.inl ⟨by kernel_rfl, ?h5⟩) (by assumption) ?r5
  case h5 => (intro w hSw; (try dsimp only at hSw); go_simp; try with_reducible rfl)
  try simp only [Act.put, List.setIfInBounds_toArray, List.set_cons_zero, List.set_cons_succ]
  refine wpAnyH_take (i := 6) (oi := { dst := some 10, op := Go.Op.convert 25 9 (Go.Operand.tmp 9), type := 9, pos := "ref.go:15", after := #[{ on := 5, ground := Go.Ground.data }], guard := none }) (v := ?v6) rfl (by kernel_rfl) (by kernel_rfl) (by kernel_rfl) (fun _ _ _ h => h) (Or.inl ⟨by kernel_rfl, ?h6⟩) (by assumption) ?r6
  case h6 => (intro w hSw; (try dsimp only at hSw); go_simp; try with_reducible rfl)
  try simp only [Act.put, List.setIfInBounds_toArray, List.set_cons_zero, List.set_cons_succ]
  refine wpAnyH_ready (rs := [3, 7]) (by kernel_rfl) (by simp) ?_
  refine AllReadyH.cons (o := { dst := some 7, op := Go.Op.buildSlice 25 1 #[(0, Go.Operand.tmp 6)], type := 25, pos := "ref.go:15", after := #[{ on := 2, ground := Go.Ground.data }], guard := none }) rfl (fun K hK => ?_) (AllReadyH.cons (o := { dst := some 11, op := Go.Op.call { callee := Go.Callee.value (Go.Operand.func 63), args := #[Go.Operand.tmp 10], argTypes := #[9] }, type := 25, pos := "ref.go:15", after := #[{ on := 6, ground := Go.Ground.data }], guard := none }) rfl (fun K hK => ?_) AllReadyH.nil)
  · go_simp
    have hx3 := hHeld.alloc hHeld.size (.cells #[.int .u8 (tg % 256)] 5)
    have ho3 := own_lit (W2) 5 .u8 [tg % 256] #[.int .u8 (tg % 256)] rfl (by simp [maxLen]) 1 rfl
    have hb3 := below_box (W2) #[.int .u8 (tg % 256)] 5
    generalize hw3 : (W2).alloc (.cells #[.int .u8 (tg % 256)] 5) = w3 at *
    refine hK.out _ _ (hx3) (fun hHeld => ?_)
    clear hK K
    try simp only [Act.put, List.setIfInBounds_toArray, List.set_cons_zero, List.set_cons_succ]
    refine wpAnyH_ready (rs := [7]) (by kernel_rfl) (by simp) ?_
    refine AllReadyH.cons (o := { dst := some 11, op := Go.Op.call { callee := Go.Callee.value (Go.Operand.func 63), args := #[Go.Operand.tmp 10], argTypes := #[9] }, type := 25, pos := "ref.go:15", after := #[{ on := 6, ground := Go.Ground.data }], guard := none }) rfl (fun K hK => ?_) AllReadyH.nil
    go_simp
    refine (htx.out _).mono ?_
    intro e w7 h7
    obtain ⟨a7, c7, rfl, hs7, hb7⟩ := h7.open T.length rfl
    have hx7 := hHeld.trans (hb7.mono hHeld.size)
    go_simp
    refine hK.out _ _ (hx7) (fun hHeld => ?_)
    clear hK K
    try simp only [Act.put, List.setIfInBounds_toArray, List.set_cons_zero, List.set_cons_succ]
    refine wpAnyH_ready (rs := [8]) (by kernel_rfl) (by simp) ?_
    refine AllReadyH.cons (o := { dst := some 12, op := Go.Op.call { callee := Go.Callee.builtin Go.Builtin.append, args := #[Go.Operand.tmp 7, Go.Operand.tmp 11], argTypes := #[25, 25] }, type := 25, pos := "ref.go:15", after := #[{ on := 3, ground := Go.Ground.data }, { on := 7, ground := Go.Ground.data }, { on := 7, ground := Go.Ground.chain }], guard := none }) rfl (fun K hK => ?_) AllReadyH.nil
    first | have ho8 := own_below ho3 hb7 | have ho8 := ho3
    first | have hs8 := (hs7.below hb3).mono hb3.size | have hs8 := hs7
    refine wp_append_foot _ (.tmp 7) (.tmp 11) 25 rfl 5 i0 (.int .u8 0) 1 Try.underlying25 hi hz0 hz1 hz2 rfl .u8 _ [tg % 256] (own_zero ho8) _ a7 T hs8 T.length c7 rfl rfl rfl (by have := hlt'.out; simp [maxLen]; omega) (by have := hlt'.out; simp; omega) ?_
    intro v8 w8 own8 grow8 blk8
    have hx8 := hHeld.grown grow8 hHeld.size (fun k hk => by have q1 := (ho8.lt k hk).1; have q2 := hx7.size; first | exact Nat.le_trans hsz.size q1 | exact Nat.le_trans q2 q1)
    have hrow8 : w8.ownsRow w.heap.size 5 1 v8 ([tg % 256] ++ T).length (nums .u8 ([tg % 256] ++ T)) := own_from own8 (fun k hk => by have q3 := hB'.out.size; have q4 := hHeld.size; have q2 := hx7.size; rcases blk8 with h | h; (rw [h] at hk; have q1 := (ho8.lt k hk).1; first | exact Nat.le_trans q3 (Nat.le_trans hsz.size q1) | exact Nat.le_trans q3 (Nat.le_trans q2 q1)); (rw [h] at hk; injection hk with hk; omega))
    refine hK.out _ _ (hx8) (fun hHeld => ?_)
    clear hK K
    try simp only [Act.put, List.setIfInBounds_toArray, List.set_cons_zero, List.set_cons_succ]
    refine wpAnyH_take (i := 9) (oi := { dst := some 3, op := Go.Op.assign (Go.Operand.tmp 12), type := 25, pos := "ref.go:15", after := #[{ on := 8, ground := Go.Ground.data }, { on := 8, ground := Go.Ground.chain }, { on := 0, ground := Go.Ground.phase }, { on := 1, ground := Go.Ground.phase }, { on := 2, ground := Go.Ground.phase }, { on := 3, ground := Go.Ground.phase }, { on := 4, ground := Go.Ground.phase }, { on := 5, ground := Go.Ground.phase }, { on := 6, ground := Go.Ground.phase }, { on := 7, ground := Go.Ground.phase }, { on := 8, ground := Go.Ground.phase }], guard := none }) (v := ?v7) rfl (by kernel_rfl) (by kernel_rfl) (by kernel_rfl) (fun _ _ _ h => h) (Or.inl ⟨by kernel_rfl, ?h7⟩) (by assumption) ?r7
    case h7 => (intro w hSw; (try dsimp only at hSw); go_simp; try with_reducible rfl)
    try simp only [Act.put, List.setIfInBounds_toArray, List.set_cons_zero, List.set_cons_succ]
    refine wpAnyH_done (by kernel_rfl) ?_ _
    rw [hHe.out] at hrow8
    have hx9 := Lib.hid (hB'.out.trans (hx8.mono hB'.out.size))
    have hrow9 := Lib.hid hrow8
    obtain ⟨a9, c9, rfl, -, hs9⟩ := sees_own hrow8
    clear hrow8 own8 grow8 blk8 ho8 hs8 hHe htx
    go_wp2_with fail
    refine (hsum.out a9 c9 w8 hs9).mono ?_
    rintro e w9 ⟨rfl, rfl⟩
    clear hsum hs9
    go_wp2_with fail
    refine (hwd.out _).mono ?_
    intro e w10 h10
    obtain ⟨a10, c10, rfl, s10, b10⟩ := h10.open 4 hwl.out
    clear h10 hwd
    go_wp2_with (at_builtin; refine made_append (w := w) (w1 := w8) rfl (.tmp 13) (.tmp 16) 25 rfl 5 i0 Try.underlying25 hi hz0 hz1 hz2 _ H hrow9.out hx9.out b10 a10 (wordB cs) 4 c10 rfl s10 rfl rfl (by have := hfin.out; have := hwl.out; omega) ?_; intro v11 w11 o11 b11)
    go_ret
    exact ⟨_, rfl, o11, b11⟩
  · go_simp
    refine (htx.out _).mono ?_
    intro e w7 h7
    obtain ⟨a7, c7, rfl, hs7, hb7⟩ := h7.open T.length rfl
    have hx7 := hHeld.trans (hb7.mono hHeld.size)
    go_simp
    refine hK.out _ _ (hx7) (fun hHeld => ?_)
    clear hK K
    try simp only [Act.put, List.setIfInBounds_toArray, List.set_cons_zero, List.set_cons_succ]
    refine wpAnyH_ready (rs := [3]) (by kernel_rfl) (by simp) ?_
    refine AllReadyH.cons (o := { dst := some 7, op := Go.Op.buildSlice 25 1 #[(0, Go.Operand.tmp 6)], type := 25, pos := "ref.go:15", after := #[{ on := 2, ground := Go.Ground.data }], guard := none }) rfl (fun K hK => ?_) AllReadyH.nil
    go_simp
    have hx3 := hHeld.alloc hHeld.size (.cells #[.int .u8 (tg % 256)] 5)
    have ho3 := own_lit (w7) 5 .u8 [tg % 256] #[.int .u8 (tg % 256)] rfl (by simp [maxLen]) 1 rfl
    have hb3 := below_box (w7) #[.int .u8 (tg % 256)] 5
    generalize hw3 : (w7).alloc (.cells #[.int .u8 (tg % 256)] 5) = w3 at *
    refine hK.out _ _ (hx3) (fun hHeld => ?_)
    clear hK K
    try simp only [Act.put, List.setIfInBounds_toArray, List.set_cons_zero, List.set_cons_succ]
    refine wpAnyH_ready (rs := [8]) (by kernel_rfl) (by simp) ?_
    refine AllReadyH.cons (o := { dst := some 12, op := Go.Op.call { callee := Go.Callee.builtin Go.Builtin.append, args := #[Go.Operand.tmp 7, Go.Operand.tmp 11], argTypes := #[25, 25] }, type := 25, pos := "ref.go:15", after := #[{ on := 3, ground := Go.Ground.data }, { on := 7, ground := Go.Ground.data }, { on := 7, ground := Go.Ground.chain }], guard := none }) rfl (fun K hK => ?_) AllReadyH.nil
    first | have ho8 := own_below ho3 hb7 | have ho8 := ho3
    first | have hs8 := (hs7.below hb3).mono hb3.size | have hs8 := hs7
    refine wp_append_foot _ (.tmp 7) (.tmp 11) 25 rfl 5 i0 (.int .u8 0) 1 Try.underlying25 hi hz0 hz1 hz2 rfl .u8 _ [tg % 256] (own_zero ho8) _ a7 T hs8 T.length c7 rfl rfl rfl (by have := hlt'.out; simp [maxLen]; omega) (by have := hlt'.out; simp; omega) ?_
    intro v8 w8 own8 grow8 blk8
    have hx8 := hHeld.grown grow8 hHeld.size (fun k hk => by have q1 := (ho8.lt k hk).1; have q2 := hx7.size; first | exact Nat.le_trans hsz.size q1 | exact Nat.le_trans q2 q1)
    have hrow8 : w8.ownsRow w.heap.size 5 1 v8 ([tg % 256] ++ T).length (nums .u8 ([tg % 256] ++ T)) := own_from own8 (fun k hk => by have q3 := hB'.out.size; have q4 := hHeld.size; have q2 := hx7.size; rcases blk8 with h | h; (rw [h] at hk; have q1 := (ho8.lt k hk).1; first | exact Nat.le_trans q3 (Nat.le_trans hsz.size q1) | exact Nat.le_trans q3 (Nat.le_trans q2 q1)); (rw [h] at hk; injection hk with hk; omega))
    refine hK.out _ _ (hx8) (fun hHeld => ?_)
    clear hK K
    try simp only [Act.put, List.setIfInBounds_toArray, List.set_cons_zero, List.set_cons_succ]
    refine wpAnyH_take (i := 9) (oi := { dst := some 3, op := Go.Op.assign (Go.Operand.tmp 12), type := 25, pos := "ref.go:15", after := #[{ on := 8, ground := Go.Ground.data }, { on := 8, ground := Go.Ground.chain }, { on := 0, ground := Go.Ground.phase }, { on := 1, ground := Go.Ground.phase }, { on := 2, ground := Go.Ground.phase }, { on := 3, ground := Go.Ground.phase }, { on := 4, ground := Go.Ground.phase }, { on := 5, ground := Go.Ground.phase }, { on := 6, ground := Go.Ground.phase }, { on := 7, ground := Go.Ground.phase }, { on := 8, ground := Go.Ground.phase }], guard := none }) (v := ?v8) rfl (by kernel_rfl) (by kernel_rfl) (by kernel_rfl) (fun _ _ _ h => h) (Or.inl ⟨by kernel_rfl, ?h8⟩) (by assumption) ?r8
    case h8 => (intro w hSw; (try dsimp only at hSw); go_simp; try with_reducible rfl)
    try simp only [Act.put, List.setIfInBounds_toArray, List.set_cons_zero, List.set_cons_succ]
    refine wpAnyH_done (by kernel_rfl) ?_ _
    rw [hHe.out] at hrow8
    have hx9 := Lib.hid (hB'.out.trans (hx8.mono hB'.out.size))
    have hrow9 := Lib.hid hrow8
    obtain ⟨a9, c9, rfl, -, hs9⟩ := sees_own hrow8
    clear hrow8 own8 grow8 blk8 ho8 hs8 hHe htx
    go_wp2_with fail
    refine (hsum.out a9 c9 w8 hs9).mono ?_
    rintro e w9 ⟨rfl, rfl⟩
    clear hsum hs9
    go_wp2_with fail
    refine (hwd.out _).mono ?_
    intro e w10 h10
    obtain ⟨a10, c10, rfl, s10, b10⟩ := h10.open 4 hwl.out
    clear h10 hwd
    go_wp2_with (at_builtin; refine made_append (w := w) (w1 := w8) rfl (.tmp 13) (.tmp 16) 25 rfl 5 i0 Try.underlying25 hi hz0 hz1 hz2 _ H hrow9.out hx9.out b10 a10 (wordB cs) 4 c10 rfl s10 rfl rfl (by have := hfin.out; have := hwl.out; omega) ?_; intro v11 w11 o11 b11)
    go_ret
    exact ⟨_, rfl, o11, b11⟩
end Go.Proofs.Ytnjdgnlgdokddaa
