/- One call of a reader, and of the document's: both tell the same. -/
import Derived.Test.YtnojapdcdjpebaaCurOps
import Derived.Test.YtnojapdcdjpebaaDrawn
namespace Go.Proofs.Ytnojapdcdjpebaa
open Go.RowKit
set_option linter.unusedVariables false

/-- Two readers that stand at the same place of the same bytes. -/
structure Both (w : World) (r x : Nat) (a : Option Addr) (cap : Nat) (a2 : Option Addr) (cap2 : Nat) (bs : List Int) (p : Nat) (e : Int) : Prop where
  rd : Rd w r a cap bs p e
  rf : Rf w x a2 cap2 bs p e
  ne : r ≠ x
  s1 : SeesE [r, x] .u8 w.heap.size w a bs
  s2 : SeesE [r, x] .u8 w.heap.size w a2 bs
section
variable {w w1 w2 : World} {r x : Nat} {a : Option Addr} {cap : Nat} {a2 : Option Addr} {cap2 : Nat} {bs : List Int} {p q : Nat} {e y : Int}
theorem Both.below (h : Both w r x a cap a2 cap2 bs p e) (hb : Below w.heap.size w w1) : Both w1 r x a cap a2 cap2 bs p e :=
  ⟨h.rd.ahead hb, ⟨h.rf.blk.below hb h.rf.blk.lt, (h.rf.sees.belowE (.of hb)).mono hb.size, h.rf.byt, h.rf.len, h.rf.cap, h.rf.at_⟩, h.ne, (h.s1.belowE (.of hb)).mono hb.size, (h.s2.belowE (.of hb)).mono hb.size⟩
theorem Both.mid (h : Both w r x a cap a2 cap2 bs p e) (m : Moved r a cap bs q y w w1) : Rf w1 x a2 cap2 bs p e :=
  ⟨h.rf.blk.belowE m.2 h.rf.blk.lt (by simpa using h.ne.symm), ((h.s2.belowE (m.2.wider (by simp))).fewer (by simp)).mono m.2.size, h.rf.byt, h.rf.len, h.rf.cap, h.rf.at_⟩
theorem Both.step (h : Both w r x a cap a2 cap2 bs p e) (m : Moved r a cap bs q y w w1) (k : MovedF x a2 cap2 bs q y w1 w2) (hq : q ≤ bs.length) :
    Both w2 r x a cap a2 cap2 bs q y ∧ BelowE [r, x] w.heap.size w w2 := by
  have m1 : BelowE [r, x] w.heap.size w w1 := m.2.wider (by simp)
  have k1 : BelowE [r, x] w.heap.size w1 w2 := (k.2.mono m.2.size).wider (by simp)
  have b := m1.trans k1
  have s1 := (h.s1.belowE b).mono b.size
  have s2 := (h.s2.belowE b).mono b.size
  exact ⟨⟨⟨m.1.belowE k.2 m.1.lt (by simpa using h.ne), s1.fewer (by simp), h.rd.byt, h.rd.len, h.rd.cap, hq⟩, ⟨k.1, s2.fewer (by simp), h.rf.byt, h.rf.len, h.rf.cap, hq⟩, h.ne, s1, s2⟩, b⟩
end
/-- What 'do' tells. -/
def Does (r x : Nat) (a : Option Addr) (cap : Nat) (a2 : Option Addr) (cap2 : Nat) (bs : List Int) (w : World) (e : Ending) (w' : World) : Prop :=
  e = .returned (.bool true) ∧ ∃ q y, Both w' r x a cap a2 cap2 bs q y ∧ BelowE [r, x] w.heap.size w w'

theorem do_1 (r x : Nat) (a : Option Addr) (cap : Nat) (a2 : Option Addr) (cap2 : Nat) (bs : List Int) (p : Nat) (e : Int) (n : Int) (hn : n ≤ 9223372036854775807) (s : ByteArray) (w : World) (h : Both w r x a cap a2 cap2 bs p e) :
    Calls Try.prog 8 #[.pointer (some ⟨r, 0, none⟩), .pointer (some ⟨x, 0, none⟩), .agg #[.int .i64 1, .int .i64 n, .string s]] w (Does r x a cap a2 cap2 bs w) := by
  have hB : Below w.heap.size w (w.alloc (.cells #[.int .i64 1, .int .i64 n, .string s] 33)) := (Below.refl _ _).alloc (Nat.le_refl _) _
  have k1 : (w.alloc (.cells #[.int .i64 1, .int .i64 n, .string s] 33)).cell? ⟨w.heap.size, 1, none⟩ = some (.int .i64 n) := by simp [go_sem]
  have hW := h.below hB
  have lr := h.rd.blk.lt
  have lx := h.rf.blk.lt
  clear h
  have c1 := u_any r a cap bs p e _ hW.rd
  have c2 := fun w1 y q (m : Moved r a cap bs q y (w.alloc (.cells #[.int .i64 1, .int .i64 n, .string s] 33)) w1) => ru_any x a2 cap2 bs p e w1 (hW.mid m)
  have hq := uO_at hW.rd.byt hW.rd.at_ e
  generalize uO bs p e = o at *
  obtain ⟨v, q, y⟩ := o
  have c1' := Lib.hid c1
  have c2' := Lib.hid c2
  have hB' := Lib.hid hB
  have hq' := Lib.hid hq
  simp only at hq
  clear c1 c2 hB hq
  go_enter Try.func8, Try.ntmps8
  go_wp2_with fail
  refine c1'.out.mono ?_
  rintro e w1 ⟨rfl, m1⟩
  go_wp2_with fail
  refine (c2'.out w1 y q m1).mono ?_
  rintro e w2 ⟨rfl, m2⟩
  go_wp2
  go_ret
  obtain ⟨hb, hx⟩ := hW.step m1 m2 hq'.out
  exact ⟨rfl, q, y, hb, (BelowE.of hB'.out).trans (hx.mono hB'.out.size)⟩

theorem do_2 (r x : Nat) (a : Option Addr) (cap : Nat) (a2 : Option Addr) (cap2 : Nat) (bs : List Int) (p : Nat) (e : Int) (n : Int) (hn : n ≤ 9223372036854775807) (s : ByteArray) (w : World) (h : Both w r x a cap a2 cap2 bs p e) :
    Calls Try.prog 8 #[.pointer (some ⟨r, 0, none⟩), .pointer (some ⟨x, 0, none⟩), .agg #[.int .i64 2, .int .i64 n, .string s]] w (Does r x a cap a2 cap2 bs w) := by
  have hB : Below w.heap.size w (w.alloc (.cells #[.int .i64 2, .int .i64 n, .string s] 33)) := (Below.refl _ _).alloc (Nat.le_refl _) _
  have k1 : (w.alloc (.cells #[.int .i64 2, .int .i64 n, .string s] 33)).cell? ⟨w.heap.size, 1, none⟩ = some (.int .i64 n) := by simp [go_sem]
  have hW := h.below hB
  have lr := h.rd.blk.lt
  have lx := h.rf.blk.lt
  clear h
  have c1 := i_any r a cap bs p e _ hW.rd
  have c2 := fun w1 y q (m : Moved r a cap bs q y (w.alloc (.cells #[.int .i64 2, .int .i64 n, .string s] 33)) w1) => ri_any x a2 cap2 bs p e w1 (hW.mid m)
  have hq := iO_at hW.rd.byt hW.rd.at_ e
  generalize iO bs p e = o at *
  obtain ⟨v, q, y⟩ := o
  have c1' := Lib.hid c1
  have c2' := Lib.hid c2
  have hB' := Lib.hid hB
  have hq' := Lib.hid hq
  simp only at hq
  clear c1 c2 hB hq
  go_enter Try.func8, Try.ntmps8
  go_wp2_with fail
  refine c1'.out.mono ?_
  rintro e w1 ⟨rfl, m1⟩
  go_wp2_with fail
  refine (c2'.out w1 y q m1).mono ?_
  rintro e w2 ⟨rfl, m2⟩
  go_wp2
  go_ret
  obtain ⟨hb, hx⟩ := hW.step m1 m2 hq'.out
  exact ⟨rfl, q, y, hb, (BelowE.of hB'.out).trans (hx.mono hB'.out.size)⟩

theorem do_3 (r x : Nat) (a : Option Addr) (cap : Nat) (a2 : Option Addr) (cap2 : Nat) (bs : List Int) (p : Nat) (e : Int) (n : Int) (hn : n ≤ 9223372036854775807) (s : ByteArray) (w : World) (h : Both w r x a cap a2 cap2 bs p e) :
    Calls Try.prog 8 #[.pointer (some ⟨r, 0, none⟩), .pointer (some ⟨x, 0, none⟩), .agg #[.int .i64 3, .int .i64 n, .string s]] w (Does r x a cap a2 cap2 bs w) := by
  have hB : Below w.heap.size w (w.alloc (.cells #[.int .i64 3, .int .i64 n, .string s] 33)) := (Below.refl _ _).alloc (Nat.le_refl _) _
  have k1 : (w.alloc (.cells #[.int .i64 3, .int .i64 n, .string s] 33)).cell? ⟨w.heap.size, 1, none⟩ = some (.int .i64 n) := by simp [go_sem]
  have hW := h.below hB
  have lr := h.rd.blk.lt
  have lx := h.rf.blk.lt
  clear h
  have c1 := byte_any r a cap bs p e _ hW.rd
  have c2 := fun w1 y q (m : Moved r a cap bs q y (w.alloc (.cells #[.int .i64 3, .int .i64 n, .string s] 33)) w1) => rbyte_any x a2 cap2 bs p e w1 (hW.mid m)
  have hq := byteO_at hW.rd.at_ e
  generalize byteO bs p e = o at *
  obtain ⟨v, q, y⟩ := o
  have c1' := Lib.hid c1
  have c2' := Lib.hid c2
  have hB' := Lib.hid hB
  have hq' := Lib.hid hq
  simp only at hq
  clear c1 c2 hB hq
  go_enter Try.func8, Try.ntmps8
  go_wp2_with fail
  refine c1'.out.mono ?_
  rintro e w1 ⟨rfl, m1⟩
  go_wp2_with fail
  refine (c2'.out w1 y q m1).mono ?_
  rintro e w2 ⟨rfl, m2⟩
  go_wp2
  go_ret
  obtain ⟨hb, hx⟩ := hW.step m1 m2 hq'.out
  exact ⟨rfl, q, y, hb, (BelowE.of hB'.out).trans (hx.mono hB'.out.size)⟩

theorem do_4 (r x : Nat) (a : Option Addr) (cap : Nat) (a2 : Option Addr) (cap2 : Nat) (bs : List Int) (p : Nat) (e : Int) (n : Int) (hn : n ≤ 9223372036854775807) (s : ByteArray) (w : World) (h : Both w r x a cap a2 cap2 bs p e) :
    Calls Try.prog 8 #[.pointer (some ⟨r, 0, none⟩), .pointer (some ⟨x, 0, none⟩), .agg #[.int .i64 4, .int .i64 n, .string s]] w (Does r x a cap a2 cap2 bs w) := by
  have hB : Below w.heap.size w (w.alloc (.cells #[.int .i64 4, .int .i64 n, .string s] 33)) := (Below.refl _ _).alloc (Nat.le_refl _) _
  have k1 : (w.alloc (.cells #[.int .i64 4, .int .i64 n, .string s] 33)).cell? ⟨w.heap.size, 1, none⟩ = some (.int .i64 n) := by simp [go_sem]
  have hW := h.below hB
  have lr := h.rd.blk.lt
  have lx := h.rf.blk.lt
  clear h
  have c1 := word_any r a cap bs p e _ hW.rd
  have c2 := fun w1 y q (m : Moved r a cap bs q y (w.alloc (.cells #[.int .i64 4, .int .i64 n, .string s] 33)) w1) => rword_any x a2 cap2 bs p e w1 (hW.mid m)
  have hq := wordO_at hW.rd.at_ e
  generalize wordO bs p e = o at *
  obtain ⟨v, q, y⟩ := o
  have c1' := Lib.hid c1
  have c2' := Lib.hid c2
  have hB' := Lib.hid hB
  have hq' := Lib.hid hq
  simp only at hq
  clear c1 c2 hB hq
  go_enter Try.func8, Try.ntmps8
  go_wp2_with fail
  refine c1'.out.mono ?_
  rintro e w1 ⟨rfl, m1⟩
  go_wp2_with fail
  refine (c2'.out w1 y q m1).mono ?_
  rintro e w2 ⟨rfl, m2⟩
  go_wp2
  go_ret
  obtain ⟨hb, hx⟩ := hW.step m1 m2 hq'.out
  exact ⟨rfl, q, y, hb, (BelowE.of hB'.out).trans (hx.mono hB'.out.size)⟩

theorem do_5 (r x : Nat) (a : Option Addr) (cap : Nat) (a2 : Option Addr) (cap2 : Nat) (bs : List Int) (p : Nat) (e : Int) (n : Int) (hn : n ≤ 9223372036854775807) (s : ByteArray) (w : World) (h : Both w r x a cap a2 cap2 bs p e) :
    Calls Try.prog 8 #[.pointer (some ⟨r, 0, none⟩), .pointer (some ⟨x, 0, none⟩), .agg #[.int .i64 5, .int .i64 n, .string s]] w (Does r x a cap a2 cap2 bs w) := by
  have hB : Below w.heap.size w (w.alloc (.cells #[.int .i64 5, .int .i64 n, .string s] 33)) := (Below.refl _ _).alloc (Nat.le_refl _) _
  have k1 : (w.alloc (.cells #[.int .i64 5, .int .i64 n, .string s] 33)).cell? ⟨w.heap.size, 1, none⟩ = some (.int .i64 n) := by simp [go_sem]
  have hW := h.below hB
  have lr := h.rd.blk.lt
  have lx := h.rf.blk.lt
  clear h
  have hWd : Both (w.alloc (.cells #[.int .i64 5, .int .i64 n, .string s] 33)).drew r x a cap a2 cap2 bs p e := hW.below ((Below.refl _ _).drew)
  have c1 := text_any r a cap bs p e n hn (w.alloc (.cells #[.int .i64 5, .int .i64 n, .string s] 33)).drew hWd.rd
  have c2 := fun w1 y q (m : Moved r a cap bs q y (w.alloc (.cells #[.int .i64 5, .int .i64 n, .string s] 33)).drew w1) => rtext_any x a2 cap2 bs p e n hn w1 (hWd.mid m)
  have hq := textO_at hW.rd.at_ n e
  generalize textO n bs p e = o at *
  obtain ⟨v, q, y⟩ := o
  have c1' := Lib.hid c1
  have c2' := Lib.hid c2
  have hB' := Lib.hid hB
  have hq' := Lib.hid hq
  simp only at hq
  clear c1 c2 hB hq
  have hS : ∀ W', BelowE [r, x] (w.alloc (.cells #[.int .i64 5, .int .i64 n, .string s] 33)).heap.size (w.alloc (.cells #[.int .i64 5, .int .i64 n, .string s] 33)) W' → W'.cell? ⟨w.heap.size, 1, none⟩ = some (.int .i64 n) := fun W' hb => by
    have hl : w.heap.size < (w.alloc (.cells #[.int .i64 5, .int .i64 n, .string s] 33)).heap.size := World.block_lt_of_cell? _ _ k1
    exact (hb.cell (p := ⟨w.heap.size, 1, none⟩) hl (by simp; omega)).trans k1
  have hWd' := Lib.hid hWd
  clear hW hWd
  go_enter Try.func8, Try.ntmps8
  go_wp2_with fail
  generalize (w.alloc (.cells #[.int .i64 5, .int .i64 n, .string s] 33)) = W at *
  refine wp_drawn_on (fun W' => BelowE [r, x] W.heap.size W W') (by kernel_rfl) ((BelowE.refl _ _ _).drew) (fun hHeld => ?_)
  refine wpAnyH_take (i := 0) (oi := { dst := some 39, op := Go.Op.move (Go.Operand.tmp 0), type := 25, pos := "law.go:54", after := #[], guard := none }) (v := ?v1) rfl (by kernel_rfl) (by kernel_rfl) (by kernel_rfl) (fun _ _ _ h => h) (Or.inl ⟨by kernel_rfl, ?h1⟩) (by assumption) ?r1
  case h1 => (intro w hSw; (try dsimp only at hSw); go_simp; try with_reducible rfl)
  try simp only [Act.put, List.setIfInBounds_toArray, List.set_cons_zero, List.set_cons_succ]
  refine wpAnyH_take (i := 1) (oi := { dst := some 40, op := Go.Op.fieldAddr 33 (Go.Operand.tmp 5) 1, type := 0, pos := "law.go:54", after := #[], guard := none }) (v := ?v2) rfl (by kernel_rfl) (by kernel_rfl) (by kernel_rfl) (fun _ _ _ h => h) (Or.inl ⟨by kernel_rfl, ?h2⟩) (by assumption) ?r2
  case h2 => (intro w hSw; (try dsimp only at hSw); go_simp; try with_reducible rfl)
  try simp only [Act.put, List.setIfInBounds_toArray, List.set_cons_zero, List.set_cons_succ]
  refine wpAnyH_take (i := 2) (oi := { dst := some 41, op := Go.Op.load 3 (Go.Operand.tmp 40), type := 3, pos := "law.go:54", after := #[{ on := 1, ground := Go.Ground.data }], guard := none }) (v := ?v3) rfl (by kernel_rfl) (by kernel_rfl) (by kernel_rfl) (fun _ _ _ h => h) (Or.inl ⟨by kernel_rfl, ?h3⟩) (by assumption) ?r3
  case h3 => (intro w hSw; (try dsimp only at hSw); go_simp; try with_reducible rfl)
  try simp only [Act.put, List.setIfInBounds_toArray, List.set_cons_zero, List.set_cons_succ]
  refine wpAnyH_take (i := 4) (oi := { dst := some 43, op := Go.Op.move (Go.Operand.tmp 1), type := 27, pos := "law.go:54", after := #[], guard := none }) (v := ?v4) rfl (by kernel_rfl) (by kernel_rfl) (by kernel_rfl) (fun _ _ _ h => h) (Or.inl ⟨by kernel_rfl, ?h4⟩) (by assumption) ?r4
  case h4 => (intro w hSw; (try dsimp only at hSw); go_simp; try with_reducible rfl)
  try simp only [Act.put, List.setIfInBounds_toArray, List.set_cons_zero, List.set_cons_succ]
  refine wpAnyH_take (i := 5) (oi := { dst := some 44, op := Go.Op.fieldAddr 33 (Go.Operand.tmp 5) 1, type := 0, pos := "law.go:54", after := #[], guard := none }) (v := ?v5) rfl (by kernel_rfl) (by kernel_rfl) (by kernel_rfl) (fun _ _ _ h => h) (Or.inl ⟨by kernel_rfl, ?h5⟩) (by assumption) ?r5
  case h5 => (intro w hSw; (try dsimp only at hSw); go_simp; try with_reducible rfl)
  try simp only [Act.put, List.setIfInBounds_toArray, List.set_cons_zero, List.set_cons_succ]
  refine wpAnyH_take (i := 6) (oi := { dst := some 45, op := Go.Op.load 3 (Go.Operand.tmp 44), type := 3, pos := "law.go:54", after := #[{ on := 5, ground := Go.Ground.data }], guard := none }) (v := ?v6) rfl (by kernel_rfl) (by kernel_rfl) (by kernel_rfl) (fun _ _ _ h => h) (Or.inl ⟨by kernel_rfl, ?h6⟩) (by assumption) ?r6
  case h6 => (intro w hSw; (try dsimp only at hSw); go_simp; try with_reducible rfl)
  try simp only [Act.put, List.setIfInBounds_toArray, List.set_cons_zero, List.set_cons_succ]
  refine wpAnyH_ready (rs := [3]) (by kernel_rfl) (by simp) ?_
  refine AllReadyH.cons (o := { dst := some 42, op := Go.Op.call { callee := Go.Callee.value (Go.Operand.func 20), args := #[Go.Operand.tmp 39, Go.Operand.tmp 41], argTypes := #[25, 3] }, type := 9, pos := "law.go:54", after := #[{ on := 0, ground := Go.Ground.data }, { on := 2, ground := Go.Ground.data }], guard := none }) rfl (fun K hK => ?_) AllReadyH.nil
  go_simp
  refine c1'.out.mono ?_
  rintro e w1 ⟨rfl, m1⟩
  go_simp
  refine hK.out _ _ ((m1.2.wider (Y := [r, x]) (by simp)).fromDrew) (fun hHeld => ?_)
  clear hK K
  try simp only [Act.put, List.setIfInBounds_toArray, List.set_cons_zero, List.set_cons_succ]
  refine wpAnyH_ready (rs := [7]) (by kernel_rfl) (by simp) ?_
  refine AllReadyH.cons (o := { dst := some 46, op := Go.Op.call { callee := Go.Callee.value (Go.Operand.func 34), args := #[Go.Operand.tmp 43, Go.Operand.tmp 45], argTypes := #[27, 3] }, type := 9, pos := "law.go:54", after := #[{ on := 4, ground := Go.Ground.data }, { on := 6, ground := Go.Ground.data }, { on := 3, ground := Go.Ground.chain }], guard := none }) rfl (fun K hK => ?_) AllReadyH.nil
  go_simp
  refine (c2'.out w1 y q m1).mono ?_
  rintro e w2 ⟨rfl, m2⟩
  go_simp
  refine hK.out _ _ ((hWd'.out.step m1 m2 hq'.out).2.fromDrew) (fun hHeld => ?_)
  clear hK K
  try simp only [Act.put, List.setIfInBounds_toArray, List.set_cons_zero, List.set_cons_succ]
  refine wpAnyH_take (i := 8) (oi := { dst := some 47, op := Go.Op.binOp Go.BinOp.eql 9 (Go.Operand.tmp 42) (Go.Operand.tmp 46) 9, type := 4, pos := "law.go:54", after := #[{ on := 3, ground := Go.Ground.data }, { on := 7, ground := Go.Ground.data }], guard := none }) (v := ?v7) rfl (by kernel_rfl) (by kernel_rfl) (by kernel_rfl) (fun _ _ _ h => h) (Or.inl ⟨by kernel_rfl, ?h7⟩) (by assumption) ?r7
  case h7 => (intro w hSw; (try dsimp only at hSw); go_simp; try with_reducible rfl)
  try simp only [Act.put, List.setIfInBounds_toArray, List.set_cons_zero, List.set_cons_succ]
  refine wpAnyH_take (i := 9) (oi := { dst := some 6, op := Go.Op.assign (Go.Operand.tmp 47), type := 4, pos := "law.go:54", after := #[{ on := 8, ground := Go.Ground.data }, { on := 7, ground := Go.Ground.chain }, { on := 0, ground := Go.Ground.phase }, { on := 1, ground := Go.Ground.phase }, { on := 2, ground := Go.Ground.phase }, { on := 3, ground := Go.Ground.phase }, { on := 4, ground := Go.Ground.phase }, { on := 5, ground := Go.Ground.phase }, { on := 6, ground := Go.Ground.phase }, { on := 7, ground := Go.Ground.phase }, { on := 8, ground := Go.Ground.phase }], guard := none }) (v := ?v8) rfl (by kernel_rfl) (by kernel_rfl) (by kernel_rfl) (fun _ _ _ h => h) (Or.inl ⟨by kernel_rfl, ?h8⟩) (by assumption) ?r8
  case h8 => (intro w hSw; (try dsimp only at hSw); go_simp; try with_reducible rfl)
  try simp only [Act.put, List.setIfInBounds_toArray, List.set_cons_zero, List.set_cons_succ]
  refine wpAnyH_done (by kernel_rfl) ?_ _
  go_wp2
  go_ret
  obtain ⟨hb, hx⟩ := hWd'.out.step m1 m2 hq'.out
  exact ⟨rfl, q, y, hb, (BelowE.of hB'.out).trans (hx.fromDrew.mono hB'.out.size)⟩

theorem do_6 (r x : Nat) (a : Option Addr) (cap : Nat) (a2 : Option Addr) (cap2 : Nat) (bs : List Int) (p : Nat) (e : Int) (n : Int) (hn : n ≤ 9223372036854775807) (s : ByteArray) (w : World) (h : Both w r x a cap a2 cap2 bs p e) :
    Calls Try.prog 8 #[.pointer (some ⟨r, 0, none⟩), .pointer (some ⟨x, 0, none⟩), .agg #[.int .i64 6, .int .i64 n, .string s]] w (Does r x a cap a2 cap2 bs w) := by
  have hB : Below w.heap.size w (w.alloc (.cells #[.int .i64 6, .int .i64 n, .string s] 33)) := (Below.refl _ _).alloc (Nat.le_refl _) _
  have k1 : (w.alloc (.cells #[.int .i64 6, .int .i64 n, .string s] 33)).cell? ⟨w.heap.size, 1, none⟩ = some (.int .i64 n) := by simp [go_sem]
  have hW := h.below hB
  have lr := h.rd.blk.lt
  have lx := h.rf.blk.lt
  clear h
  have hWd : Both (w.alloc (.cells #[.int .i64 6, .int .i64 n, .string s] 33)).drew r x a cap a2 cap2 bs p e := hW.below ((Below.refl _ _).drew)
  have c1 := count_any r a cap bs p e n hn (w.alloc (.cells #[.int .i64 6, .int .i64 n, .string s] 33)).drew hWd.rd
  have c2 := fun w1 y q (m : Moved r a cap bs q y (w.alloc (.cells #[.int .i64 6, .int .i64 n, .string s] 33)).drew w1) => rcount_any x a2 cap2 bs p e n hn w1 (hWd.mid m)
  have hq := countO_at hW.rd.byt hW.rd.at_ n e
  generalize countO n bs p e = o at *
  obtain ⟨v, q, y⟩ := o
  have c1' := Lib.hid c1
  have c2' := Lib.hid c2
  have hB' := Lib.hid hB
  have hq' := Lib.hid hq
  simp only at hq
  clear c1 c2 hB hq
  have hS : ∀ W', BelowE [r, x] (w.alloc (.cells #[.int .i64 6, .int .i64 n, .string s] 33)).heap.size (w.alloc (.cells #[.int .i64 6, .int .i64 n, .string s] 33)) W' → W'.cell? ⟨w.heap.size, 1, none⟩ = some (.int .i64 n) := fun W' hb => by
    have hl : w.heap.size < (w.alloc (.cells #[.int .i64 6, .int .i64 n, .string s] 33)).heap.size := World.block_lt_of_cell? _ _ k1
    exact (hb.cell (p := ⟨w.heap.size, 1, none⟩) hl (by simp; omega)).trans k1
  have hWd' := Lib.hid hWd
  clear hW hWd
  go_enter Try.func8, Try.ntmps8
  go_wp2_with fail
  generalize (w.alloc (.cells #[.int .i64 6, .int .i64 n, .string s] 33)) = W at *
  refine wp_drawn_on (fun W' => BelowE [r, x] W.heap.size W W') (by kernel_rfl) ((BelowE.refl _ _ _).drew) (fun hHeld => ?_)
  refine wpAnyH_take (i := 0) (oi := { dst := some 50, op := Go.Op.move (Go.Operand.tmp 0), type := 25, pos := "law.go:56", after := #[], guard := none }) (v := ?v9) rfl (by kernel_rfl) (by kernel_rfl) (by kernel_rfl) (fun _ _ _ h => h) (Or.inl ⟨by kernel_rfl, ?h9⟩) (by assumption) ?r9
  case h9 => (intro w hSw; (try dsimp only at hSw); go_simp; try with_reducible rfl)
  try simp only [Act.put, List.setIfInBounds_toArray, List.set_cons_zero, List.set_cons_succ]
  refine wpAnyH_take (i := 1) (oi := { dst := some 51, op := Go.Op.fieldAddr 33 (Go.Operand.tmp 5) 1, type := 0, pos := "law.go:56", after := #[], guard := none }) (v := ?v10) rfl (by kernel_rfl) (by kernel_rfl) (by kernel_rfl) (fun _ _ _ h => h) (Or.inl ⟨by kernel_rfl, ?h10⟩) (by assumption) ?r10
  case h10 => (intro w hSw; (try dsimp only at hSw); go_simp; try with_reducible rfl)
  try simp only [Act.put, List.setIfInBounds_toArray, List.set_cons_zero, List.set_cons_succ]
  refine wpAnyH_take (i := 2) (oi := { dst := some 52, op := Go.Op.load 3 (Go.Operand.tmp 51), type := 3, pos := "law.go:56", after := #[{ on := 1, ground := Go.Ground.data }], guard := none }) (v := ?v11) rfl (by kernel_rfl) (by kernel_rfl) (by kernel_rfl) (fun _ _ _ h => h) (Or.inl ⟨by kernel_rfl, ?h11⟩) (by assumption) ?r11
  case h11 => (intro w hSw; (try dsimp only at hSw); go_simp; try with_reducible rfl)
  try simp only [Act.put, List.setIfInBounds_toArray, List.set_cons_zero, List.set_cons_succ]
  refine wpAnyH_take (i := 4) (oi := { dst := some 54, op := Go.Op.move (Go.Operand.tmp 1), type := 27, pos := "law.go:56", after := #[], guard := none }) (v := ?v12) rfl (by kernel_rfl) (by kernel_rfl) (by kernel_rfl) (fun _ _ _ h => h) (Or.inl ⟨by kernel_rfl, ?h12⟩) (by assumption) ?r12
  case h12 => (intro w hSw; (try dsimp only at hSw); go_simp; try with_reducible rfl)
  try simp only [Act.put, List.setIfInBounds_toArray, List.set_cons_zero, List.set_cons_succ]
  refine wpAnyH_take (i := 5) (oi := { dst := some 55, op := Go.Op.fieldAddr 33 (Go.Operand.tmp 5) 1, type := 0, pos := "law.go:56", after := #[], guard := none }) (v := ?v13) rfl (by kernel_rfl) (by kernel_rfl) (by kernel_rfl) (fun _ _ _ h => h) (Or.inl ⟨by kernel_rfl, ?h13⟩) (by assumption) ?r13
  case h13 => (intro w hSw; (try dsimp only at hSw); go_simp; try with_reducible rfl)
  try simp only [Act.put, List.setIfInBounds_toArray, List.set_cons_zero, List.set_cons_succ]
  refine wpAnyH_take (i := 6) (oi := { dst := some 56, op := Go.Op.load 3 (Go.Operand.tmp 55), type := 3, pos := "law.go:56", after := #[{ on := 5, ground := Go.Ground.data }], guard := none }) (v := ?v14) rfl (by kernel_rfl) (by kernel_rfl) (by kernel_rfl) (fun _ _ _ h => h) (Or.inl ⟨by kernel_rfl, ?h14⟩) (by assumption) ?r14
  case h14 => (intro w hSw; (try dsimp only at hSw); go_simp; try with_reducible rfl)
  try simp only [Act.put, List.setIfInBounds_toArray, List.set_cons_zero, List.set_cons_succ]
  refine wpAnyH_ready (rs := [3]) (by kernel_rfl) (by simp) ?_
  refine AllReadyH.cons (o := { dst := some 53, op := Go.Op.call { callee := Go.Callee.value (Go.Operand.func 23), args := #[Go.Operand.tmp 50, Go.Operand.tmp 52], argTypes := #[25, 3] }, type := 3, pos := "law.go:56", after := #[{ on := 0, ground := Go.Ground.data }, { on := 2, ground := Go.Ground.data }], guard := none }) rfl (fun K hK => ?_) AllReadyH.nil
  go_simp
  refine c1'.out.mono ?_
  rintro e w1 ⟨rfl, m1⟩
  go_simp
  refine hK.out _ _ ((m1.2.wider (Y := [r, x]) (by simp)).fromDrew) (fun hHeld => ?_)
  clear hK K
  try simp only [Act.put, List.setIfInBounds_toArray, List.set_cons_zero, List.set_cons_succ]
  refine wpAnyH_ready (rs := [7]) (by kernel_rfl) (by simp) ?_
  refine AllReadyH.cons (o := { dst := some 57, op := Go.Op.call { callee := Go.Callee.value (Go.Operand.func 35), args := #[Go.Operand.tmp 54, Go.Operand.tmp 56], argTypes := #[27, 3] }, type := 3, pos := "law.go:56", after := #[{ on := 4, ground := Go.Ground.data }, { on := 6, ground := Go.Ground.data }, { on := 3, ground := Go.Ground.chain }], guard := none }) rfl (fun K hK => ?_) AllReadyH.nil
  go_simp
  refine (c2'.out w1 y q m1).mono ?_
  rintro e w2 ⟨rfl, m2⟩
  go_simp
  refine hK.out _ _ ((hWd'.out.step m1 m2 hq'.out).2.fromDrew) (fun hHeld => ?_)
  clear hK K
  try simp only [Act.put, List.setIfInBounds_toArray, List.set_cons_zero, List.set_cons_succ]
  refine wpAnyH_take (i := 8) (oi := { dst := some 58, op := Go.Op.binOp Go.BinOp.eql 3 (Go.Operand.tmp 53) (Go.Operand.tmp 57) 3, type := 4, pos := "law.go:56", after := #[{ on := 3, ground := Go.Ground.data }, { on := 7, ground := Go.Ground.data }], guard := none }) (v := ?v15) rfl (by kernel_rfl) (by kernel_rfl) (by kernel_rfl) (fun _ _ _ h => h) (Or.inl ⟨by kernel_rfl, ?h15⟩) (by assumption) ?r15
  case h15 => (intro w hSw; (try dsimp only at hSw); go_simp; try with_reducible rfl)
  try simp only [Act.put, List.setIfInBounds_toArray, List.set_cons_zero, List.set_cons_succ]
  refine wpAnyH_take (i := 9) (oi := { dst := some 6, op := Go.Op.assign (Go.Operand.tmp 58), type := 4, pos := "law.go:56", after := #[{ on := 8, ground := Go.Ground.data }, { on := 7, ground := Go.Ground.chain }, { on := 0, ground := Go.Ground.phase }, { on := 1, ground := Go.Ground.phase }, { on := 2, ground := Go.Ground.phase }, { on := 3, ground := Go.Ground.phase }, { on := 4, ground := Go.Ground.phase }, { on := 5, ground := Go.Ground.phase }, { on := 6, ground := Go.Ground.phase }, { on := 7, ground := Go.Ground.phase }, { on := 8, ground := Go.Ground.phase }], guard := none }) (v := ?v16) rfl (by kernel_rfl) (by kernel_rfl) (by kernel_rfl) (fun _ _ _ h => h) (Or.inl ⟨by kernel_rfl, ?h16⟩) (by assumption) ?r16
  case h16 => (intro w hSw; (try dsimp only at hSw); go_simp; try with_reducible rfl)
  try simp only [Act.put, List.setIfInBounds_toArray, List.set_cons_zero, List.set_cons_succ]
  refine wpAnyH_done (by kernel_rfl) ?_ _
  go_wp2
  go_ret
  obtain ⟨hb, hx⟩ := hWd'.out.step m1 m2 hq'.out
  exact ⟨rfl, q, y, hb, (BelowE.of hB'.out).trans (hx.fromDrew.mono hB'.out.size)⟩

theorem do_7 (r x : Nat) (a : Option Addr) (cap : Nat) (a2 : Option Addr) (cap2 : Nat) (bs : List Int) (p : Nat) (e : Int) (n : Int) (hn : n ≤ 9223372036854775807) (s : ByteArray) (w : World) (h : Both w r x a cap a2 cap2 bs p e) :
    Calls Try.prog 8 #[.pointer (some ⟨r, 0, none⟩), .pointer (some ⟨x, 0, none⟩), .agg #[.int .i64 7, .int .i64 n, .string s]] w (Does r x a cap a2 cap2 bs w) := by
  have hB : Below w.heap.size w (w.alloc (.cells #[.int .i64 7, .int .i64 n, .string s] 33)) := (Below.refl _ _).alloc (Nat.le_refl _) _
  have k1 : (w.alloc (.cells #[.int .i64 7, .int .i64 n, .string s] 33)).cell? ⟨w.heap.size, 1, none⟩ = some (.int .i64 n) := by simp [go_sem]
  have hW := h.below hB
  have lr := h.rd.blk.lt
  have lx := h.rf.blk.lt
  clear h
  have c1 := fail_any r a cap bs p e n _ hW.rd
  have c2 := fun w1 (m : Moved r a cap bs p (failO n e) (w.alloc (.cells #[.int .i64 7, .int .i64 n, .string s] 33)) w1) => rfail_any x a2 cap2 bs p e n w1 (hW.mid m)
  have hp := hW.rd.at_
  have c1' := Lib.hid c1
  have c2' := Lib.hid c2
  have hB' := Lib.hid hB
  have hl : w.heap.size < (w.alloc (.cells #[.int .i64 7, .int .i64 n, .string s] 33)).heap.size := World.block_lt_of_cell? _ _ k1
  have hW' := Lib.hid hW
  clear c1 c2 hB hW
  go_enter Try.func8, Try.ntmps8
  go_wp2_with fail
  generalize (w.alloc (.cells #[.int .i64 7, .int .i64 n, .string s] 33)) = W at *
  refine c1'.out.mono ?_
  rintro e w1 ⟨rfl, m1⟩
  have k2 := (m1.2.cell (p := ⟨w.heap.size, 1, none⟩) hl (by simp; omega)).trans k1
  go_wp2_with fail
  refine (c2'.out w1 m1).mono ?_
  rintro e w2 ⟨rfl, m2⟩
  go_wp2
  go_ret
  obtain ⟨hb, hx⟩ := hW'.out.step m1 m2 hp
  exact ⟨rfl, p, _, hb, (BelowE.of hB'.out).trans (hx.mono hB'.out.size)⟩

theorem do_8 (r x : Nat) (a : Option Addr) (cap : Nat) (a2 : Option Addr) (cap2 : Nat) (bs : List Int) (p : Nat) (e : Int) (n : Int) (hn : n ≤ 9223372036854775807) (s : ByteArray) (w : World) (h : Both w r x a cap a2 cap2 bs p e) :
    Calls Try.prog 8 #[.pointer (some ⟨r, 0, none⟩), .pointer (some ⟨x, 0, none⟩), .agg #[.int .i64 8, .int .i64 n, .string s]] w (Does r x a cap a2 cap2 bs w) := by
  have hB : Below w.heap.size w (w.alloc (.cells #[.int .i64 8, .int .i64 n, .string s] 33)) := (Below.refl _ _).alloc (Nat.le_refl _) _
  have k1 : (w.alloc (.cells #[.int .i64 8, .int .i64 n, .string s] 33)).cell? ⟨w.heap.size, 1, none⟩ = some (.int .i64 n) := by simp [go_sem]
  have hW := h.below hB
  have lr := h.rd.blk.lt
  have lx := h.rf.blk.lt
  clear h
  have c1 := end_any r a cap bs p e _ hW.rd
  have c2 := fun w1 (m : Moved r a cap bs p (endO bs p e) (w.alloc (.cells #[.int .i64 8, .int .i64 n, .string s] 33)) w1) => rend_any x a2 cap2 bs p e w1 (hW.mid m)
  have hp := hW.rd.at_
  have c1' := Lib.hid c1
  have c2' := Lib.hid c2
  have hB' := Lib.hid hB
  have hl : w.heap.size < (w.alloc (.cells #[.int .i64 8, .int .i64 n, .string s] 33)).heap.size := World.block_lt_of_cell? _ _ k1
  have hW' := Lib.hid hW
  clear c1 c2 hB hW
  go_enter Try.func8, Try.ntmps8
  go_wp2_with fail
  generalize (w.alloc (.cells #[.int .i64 8, .int .i64 n, .string s] 33)) = W at *
  refine c1'.out.mono ?_
  rintro e w1 ⟨rfl, m1⟩
  have k2 := (m1.2.cell (p := ⟨w.heap.size, 1, none⟩) hl (by simp; omega)).trans k1
  go_wp2_with fail
  refine (c2'.out w1 m1).mono ?_
  rintro e w2 ⟨rfl, m2⟩
  go_wp2
  go_ret
  obtain ⟨hb, hx⟩ := hW'.out.step m1 m2 hp
  exact ⟨rfl, p, _, hb, (BelowE.of hB'.out).trans (hx.mono hB'.out.size)⟩

theorem do_else (k : Int) (hk : k ≠ 1 ∧ k ≠ 2 ∧ k ≠ 3 ∧ k ≠ 4 ∧ k ≠ 5 ∧ k ≠ 6 ∧ k ≠ 7 ∧ k ≠ 8) (r x : Nat) (a : Option Addr) (cap : Nat) (a2 : Option Addr) (cap2 : Nat) (bs : List Int) (p : Nat) (e : Int) (n : Int) (hn : n ≤ 9223372036854775807) (s : ByteArray) (w : World) (h : Both w r x a cap a2 cap2 bs p e) :
    Calls Try.prog 8 #[.pointer (some ⟨r, 0, none⟩), .pointer (some ⟨x, 0, none⟩), .agg #[.int .i64 k, .int .i64 n, .string s]] w (Does r x a cap a2 cap2 bs w) := by
  have hB : Below w.heap.size w (w.alloc (.cells #[.int .i64 k, .int .i64 n, .string s] 33)) := (Below.refl _ _).alloc (Nat.le_refl _) _
  have hW := Lib.hid (h.below hB)
  have hB' := Lib.hid hB
  have b1 : (k == 1) = false := by simpa using hk.1
  have b2 : (k == 2) = false := by simpa using hk.2.1
  have b3 : (k == 3) = false := by simpa using hk.2.2.1
  have b4 : (k == 4) = false := by simpa using hk.2.2.2.1
  have b5 : (k == 5) = false := by simpa using hk.2.2.2.2.1
  have b6 : (k == 6) = false := by simpa using hk.2.2.2.2.2.1
  have b7 : (k == 7) = false := by simpa using hk.2.2.2.2.2.2.1
  have b8 : (k == 8) = false := by simpa using hk.2.2.2.2.2.2.2
  clear hk h hB
  go_enter Try.func8, Try.ntmps8
  go_wp2
  go_ret
  exact ⟨rfl, p, e, hW.out, BelowE.of hB'.out⟩
theorem do_any (k : Int) (r x : Nat) (a : Option Addr) (cap : Nat) (a2 : Option Addr) (cap2 : Nat) (bs : List Int) (p : Nat) (e : Int) (n : Int) (hn : n ≤ 9223372036854775807) (s : ByteArray) (w : World) (h : Both w r x a cap a2 cap2 bs p e) :
    Calls Try.prog 8 #[.pointer (some ⟨r, 0, none⟩), .pointer (some ⟨x, 0, none⟩), .agg #[.int .i64 k, .int .i64 n, .string s]] w (Does r x a cap a2 cap2 bs w) := by
  by_cases h1 : k = 1
  · subst h1; exact do_1 r x a cap a2 cap2 bs p e n hn s w h
  by_cases h2 : k = 2
  · subst h2; exact do_2 r x a cap a2 cap2 bs p e n hn s w h
  by_cases h3 : k = 3
  · subst h3; exact do_3 r x a cap a2 cap2 bs p e n hn s w h
  by_cases h4 : k = 4
  · subst h4; exact do_4 r x a cap a2 cap2 bs p e n hn s w h
  by_cases h5 : k = 5
  · subst h5; exact do_5 r x a cap a2 cap2 bs p e n hn s w h
  by_cases h6 : k = 6
  · subst h6; exact do_6 r x a cap a2 cap2 bs p e n hn s w h
  by_cases h7 : k = 7
  · subst h7; exact do_7 r x a cap a2 cap2 bs p e n hn s w h
  by_cases h8 : k = 8
  · subst h8; exact do_8 r x a cap a2 cap2 bs p e n hn s w h
  exact do_else k ⟨h1, h2, h3, h4, h5, h6, h7, h8⟩ r x a cap a2 cap2 bs p e n hn s w h
end Go.Proofs.Ytnojapdcdjpebaa
