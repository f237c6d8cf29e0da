/- file: what Write's closure does. -/
import Derived.Test.YtjhakmpinloioaaFileBase
namespace Go.Proofs.Ytjhakmpinloioaa
open Go.RowKit
set_option linter.unusedVariables false
set_option linter.unusedSimpArgs false

/-- A file has another row: the disk, and what was made of it. -/
theorem dk_put0 {w w1 : World} {d : Nat} {F : List Nat} {s : St} {v0 v1 v' : Value} {l' : List Int}
    (h1 : Holds w d 47 #[v0, v1, .bool s.off, .bool s.armed, .int .i64 s.left]) (h2 : w.ownsRow 0 5 1 v0 (s.l 0).length (nums .u8 (s.l 0))) (h3 : w.ownsRow 0 5 1 v1 (s.l 1).length (nums .u8 (s.l 1)))
    (h4 : d ∈ F) (h5 : ∀ b, v0.ownBlock = some b → b ∈ F ∧ b ≠ d) (h6 : ∀ b, v1.ownBlock = some b → b ∈ F ∧ b ≠ d) (h7 : ∀ b, v0.ownBlock = some b → v1.ownBlock ≠ some b) (h8 : ∀ x ∈ F, x < w.heap.size)
    (own1 : w1.ownsRow 0 5 1 v' l'.length (nums .u8 l')) (grow1 : w.grownBy w1 v0.ownBlock) (blk1 : v'.ownBlock = v0.ownBlock ∨ v'.ownBlock = some w.heap.size) :
    ∃ F', Dk (w1.setCell ⟨d, 0, none⟩ v') d F' (s.with_ (upd s.l 0 l')) ∧ Turns F F' w (w1.setCell ⟨d, 0, none⟩ v') := by
  have ld : d < w.heap.size := h8 d h4
  have hz : (w1.setCell ⟨d, 0, none⟩ v').heap.size = w1.heap.size := by simp [World.setCell]
  have kd : Holds w1 d 47 #[v0, v1, .bool s.off, .bool s.armed, .int .i64 s.left] := (grow1.block d ld (fun e => (h5 d e.symm).2 rfl)).trans h1
  have hX : BelowE v0.ownBlock.toList w.heap.size w w1 := (BelowE.refl _ _ _).grown grow1 (Nat.le_refl _) (fun k hk _ => by simp [hk])
  have hS : BelowE [d] w1.heap.size w1 (w1.setCell ⟨d, 0, none⟩ v') := (BelowE.refl _ _ _).setIn (p := ⟨d, 0, none⟩) (by simp) _
  have oo : (w1.setCell ⟨d, 0, none⟩ v').ownsRow 0 5 1 v1 (s.l 1).length (nums .u8 (s.l 1)) :=
    own_belowE (own_belowE h3 hX (fun k hk hm => by simp at hm; exact h7 k hm hk)) hS (fun k hk => by simpa using (h6 k hk).2)
  have bn : ∀ b, v'.ownBlock = some b → b ≠ d := fun b hb => by
    rcases blk1 with h | h
    · exact (h5 b (by rw [← h]; exact hb)).2
    · rw [hb] at h; injection h with h; omega
  have on : (w1.setCell ⟨d, 0, none⟩ v').ownsRow 0 5 1 v' l'.length (nums .u8 l') := own_belowE own1 hS (fun k hk => by simpa using bn k hk)
  refine ⟨v'.ownBlock.toList ++ F, ⟨v', v1, ?_, ?_, ?_, by simp [h4], ?_, ?_, ?_, ?_⟩, ?_, ?_⟩
  · have := kd.set 0 v'
    simpa [St.with_] using this
  · simpa [St.with_, upd] using on
  · simpa [St.with_, upd] using oo
  · intro b hb; exact ⟨by simp [hb], bn b hb⟩
  · intro b hb; exact ⟨by simp [(h6 b hb).1], (h6 b hb).2⟩
  · intro b hb hc
    rcases blk1 with h | h
    · exact h7 b (by rw [← h]; exact hb) hc
    · rw [hb] at h; injection h with h; have := h8 b (h6 b hc).1; omega
  · intro x hx
    rw [hz]
    rcases List.mem_append.1 hx with hx | hx
    · simp at hx
      exact (own1.lt x hx).2
    · exact Nat.lt_of_lt_of_le (h8 x hx) grow1.size
  · have hb0 : BelowE F w.heap.size w w1 := (BelowE.refl _ _ _).grown grow1 (Nat.le_refl _) (fun k hk _ => (h5 k hk).1)
    exact hb0.setIn (p := ⟨d, 0, none⟩) h4 _
  · intro x hx
    rcases List.mem_append.1 hx with hx | hx
    · simp at hx
      rcases blk1 with h | h
      · exact .inl (h5 x (by rw [← h]; exact hx)).1
      · rw [hx] at h; injection h with h; right; omega
    · exact .inl hx

/-- A file has another row: the disk, and what was made of it. -/
theorem dk_put1 {w w1 : World} {d : Nat} {F : List Nat} {s : St} {v0 v1 v' : Value} {l' : List Int}
    (h1 : Holds w d 47 #[v0, v1, .bool s.off, .bool s.armed, .int .i64 s.left]) (h2 : w.ownsRow 0 5 1 v0 (s.l 0).length (nums .u8 (s.l 0))) (h3 : w.ownsRow 0 5 1 v1 (s.l 1).length (nums .u8 (s.l 1)))
    (h4 : d ∈ F) (h5 : ∀ b, v0.ownBlock = some b → b ∈ F ∧ b ≠ d) (h6 : ∀ b, v1.ownBlock = some b → b ∈ F ∧ b ≠ d) (h7 : ∀ b, v0.ownBlock = some b → v1.ownBlock ≠ some b) (h8 : ∀ x ∈ F, x < w.heap.size)
    (own1 : w1.ownsRow 0 5 1 v' l'.length (nums .u8 l')) (grow1 : w.grownBy w1 v1.ownBlock) (blk1 : v'.ownBlock = v1.ownBlock ∨ v'.ownBlock = some w.heap.size) :
    ∃ F', Dk (w1.setCell ⟨d, 1, none⟩ v') d F' (s.with_ (upd s.l 1 l')) ∧ Turns F F' w (w1.setCell ⟨d, 1, none⟩ v') := by
  have ld : d < w.heap.size := h8 d h4
  have hz : (w1.setCell ⟨d, 1, none⟩ v').heap.size = w1.heap.size := by simp [World.setCell]
  have kd : Holds w1 d 47 #[v0, v1, .bool s.off, .bool s.armed, .int .i64 s.left] := (grow1.block d ld (fun e => (h6 d e.symm).2 rfl)).trans h1
  have hX : BelowE v1.ownBlock.toList w.heap.size w w1 := (BelowE.refl _ _ _).grown grow1 (Nat.le_refl _) (fun k hk _ => by simp [hk])
  have hS : BelowE [d] w1.heap.size w1 (w1.setCell ⟨d, 1, none⟩ v') := (BelowE.refl _ _ _).setIn (p := ⟨d, 1, none⟩) (by simp) _
  have oo : (w1.setCell ⟨d, 1, none⟩ v').ownsRow 0 5 1 v0 (s.l 0).length (nums .u8 (s.l 0)) :=
    own_belowE (own_belowE h2 hX (fun k hk hm => by simp at hm; exact h7 k hk hm)) hS (fun k hk => by simpa using (h5 k hk).2)
  have bn : ∀ b, v'.ownBlock = some b → b ≠ d := fun b hb => by
    rcases blk1 with h | h
    · exact (h6 b (by rw [← h]; exact hb)).2
    · rw [hb] at h; injection h with h; omega
  have on : (w1.setCell ⟨d, 1, none⟩ v').ownsRow 0 5 1 v' l'.length (nums .u8 l') := own_belowE own1 hS (fun k hk => by simpa using bn k hk)
  refine ⟨v'.ownBlock.toList ++ F, ⟨v0, v', ?_, ?_, ?_, by simp [h4], ?_, ?_, ?_, ?_⟩, ?_, ?_⟩
  · have := kd.set 1 v'
    simpa [St.with_] using this
  · simpa [St.with_, upd] using oo
  · simpa [St.with_, upd] using on
  · intro b hb; exact ⟨by simp [(h5 b hb).1], (h5 b hb).2⟩
  · intro b hb; exact ⟨by simp [hb], bn b hb⟩
  · intro b hb hc
    rcases blk1 with h | h
    · exact h7 b hb (by rw [← h]; exact hc)
    · rw [hc] at h; injection h with h; have := h8 b (h5 b hb).1; omega
  · intro x hx
    rw [hz]
    rcases List.mem_append.1 hx with hx | hx
    · simp at hx
      exact (own1.lt x hx).2
    · exact Nat.lt_of_lt_of_le (h8 x hx) grow1.size
  · have hb0 : BelowE F w.heap.size w w1 := (BelowE.refl _ _ _).grown grow1 (Nat.le_refl _) (fun k hk _ => (h6 k hk).1)
    exact hb0.setIn (p := ⟨d, 1, none⟩) h4 _
  · intro x hx
    rcases List.mem_append.1 hx with hx | hx
    · simp at hx
      rcases blk1 with h | h
      · exact .inl (h6 x (by rw [← h]; exact hx)).1
      · rw [hx] at h; injection h with h; right; omega
    · exact .inl hx

/-- The closures' ends: what is told is nothing; the disk has these bytes. -/
def Done (s : St) (d : Nat) (F : List Nat) (w : World) (e : Ending) (w' : World) : Prop := e = .returned (.tuple #[]) ∧ ∃ F', Dk w' d F' s ∧ Turns F F' w w'

theorem wr_0 (d : Nat) (F : List Nat) (s : St) (p : Nat) (A : Option Addr) (m c : Nat) (b : List Int) (bd bn bb : Nat) (w : World) (h : Dk w d F s)
    (kd : w.cell? ⟨bd, 0, none⟩ = some (.pointer (some ⟨d, 0, none⟩))) (kn : w.cell? ⟨bn, 0, none⟩ = some (.int .i64 0)) (kb : w.cell? ⟨bb, 0, none⟩ = some (.slice A m c)) (hd : bd ∉ F) (hn : bn ∉ F) (hb : bb ∉ F) (hm : m = b.length) (hs : Sees .u8 w.heap.size w A b) (hp : p ≤ b.length) (hc : m ≤ c) (hl : (s.l 0).length + b.length ≤ 100000000) :
    Calls Try.prog 31 #[.int .i64 p, .pointer (some ⟨bd, 0, none⟩), .pointer (some ⟨bn, 0, none⟩), .pointer (some ⟨bb, 0, none⟩)] w (Done (s.with_ (upd s.l 0 (s.l 0 ++ b.take p))) d F w) := by
  obtain ⟨i0, hi, hz0, hz1, hz2⟩ := info_parts infoU8'
  obtain ⟨v0, v1, h1, h2, h3, h4, h5, h6, h7, h8⟩ := h
  have lbd := World.block_lt_of_cell? w _ kd
  have lbn := World.block_lt_of_cell? w _ kn
  have lbb := World.block_lt_of_cell? w _ kb
  have f0 : ∀ W', BelowE F w.heap.size w W' → W'.cell? ⟨bd, 0, none⟩ = some (.pointer (some ⟨d, 0, none⟩)) := fun W' h => (h.cell (p := ⟨bd, 0, none⟩) lbd hd).trans kd
  have f1 : ∀ W', BelowE F w.heap.size w W' → W'.cell? ⟨bn, 0, none⟩ = some (.int .i64 0) := fun W' h => (h.cell (p := ⟨bn, 0, none⟩) lbn hn).trans kn
  have f2 : ∀ W', BelowE F w.heap.size w W' → W'.cell? ⟨bb, 0, none⟩ = some (.slice A m c) := fun W' h => (h.cell (p := ⟨bb, 0, none⟩) lbb hb).trans kb
  have cN := h1.cell 0
  have fN := h1.free 0
  simp at cN
  have fin := fun (w1 : World) (v' : Value) (l' : List Int) => dk_put0 (w := w) (w1 := w1) (v' := v') (l' := l') h1 h2 h3 h4 h5 h6 h7 h8
  have fin' := Lib.hid fin
  clear fin
  obtain ⟨av, cv, rfl, -, see0⟩ := sees_own h2
  have h1' := Lib.hid h1
  have hM' := Lib.hid h5
  have h4' := Lib.hid h4
  have hO' := Lib.hid h2
  have see' := Lib.hid (hs.take p)
  have hpc : p ≤ c := by omega
  have hlen : p = (b.take p).length := by simp; omega
  have hlen' := Lib.hid hlen
  have hbd' : Hid ((s.l 0).length + (b.take p).length ≤ 140737488355328) := Lib.hid (by simp; omega)
  have hp0 : (p : Int) ≤ 9223372036854775807 := by omega
  clear h1 h2 h3 h4 h5 h6 h7 h8 hlen kd kn kb hd hn hb lbd lbn lbb hs hc see0
  go_enter Try.func31, Try.ntmps31
  go_wp2
  refine wp_drawn_on (fun W' => BelowE F w.heap.size w W') (by kernel_rfl) ((BelowE.refl _ _ _).drew) (fun hHeld => ?_)
  refine wpAnyH_take (i := 0) (oi := { dst := some 5, op := Go.Op.load 25 (Go.Operand.tmp 1), type := 25, pos := "file.go:64", after := #[], guard := none }) (v := ?v1) rfl (by kernel_rfl) (by kernel_rfl) (by kernel_rfl) (fun _ _ _ h => h) (Or.inl ⟨by kernel_rfl, ?h1⟩) (by assumption) ?r1
  case h1 => (intro w hSw; (try dsimp only at hSw); go_simp; try with_reducible rfl)
  try simp only [Act.put, List.setIfInBounds_toArray, List.set_cons_zero, List.set_cons_succ]
  refine wpAnyH_take (i := 1) (oi := { dst := some 6, op := Go.Op.load 3 (Go.Operand.tmp 2), type := 3, pos := "file.go:64", after := #[], guard := none }) (v := ?v2) rfl (by kernel_rfl) (by kernel_rfl) (by kernel_rfl) (fun _ _ _ h => h) (Or.inl ⟨by kernel_rfl, ?h2⟩) (by assumption) ?r2
  case h2 => (intro w hSw; (try dsimp only at hSw); go_simp; try with_reducible rfl)
  try simp only [Act.put, List.setIfInBounds_toArray, List.set_cons_zero, List.set_cons_succ]
  refine wpAnyH_take (i := 2) (oi := { dst := some 7, op := Go.Op.load 25 (Go.Operand.tmp 1), type := 25, pos := "file.go:64", after := #[], guard := none }) (v := ?v3) rfl (by kernel_rfl) (by kernel_rfl) (by kernel_rfl) (fun _ _ _ h => h) (Or.inl ⟨by kernel_rfl, ?h3⟩) (by assumption) ?r3
  case h3 => (intro w hSw; (try dsimp only at hSw); go_simp; try with_reducible rfl)
  try simp only [Act.put, List.setIfInBounds_toArray, List.set_cons_zero, List.set_cons_succ]
  refine wpAnyH_take (i := 3) (oi := { dst := some 8, op := Go.Op.load 3 (Go.Operand.tmp 2), type := 3, pos := "file.go:64", after := #[], guard := none }) (v := ?v4) rfl (by kernel_rfl) (by kernel_rfl) (by kernel_rfl) (fun _ _ _ h => h) (Or.inl ⟨by kernel_rfl, ?h4⟩) (by assumption) ?r4
  case h4 => (intro w hSw; (try dsimp only at hSw); go_simp; try with_reducible rfl)
  try simp only [Act.put, List.setIfInBounds_toArray, List.set_cons_zero, List.set_cons_succ]
  refine wpAnyH_take (i := 4) (oi := { dst := some 9, op := Go.Op.nilCheck (Go.Operand.tmp 7), type := 0, pos := "file.go:64", after := #[{ on := 2, ground := Go.Ground.data }], guard := none }) (v := ?v5) rfl (by kernel_rfl) (by kernel_rfl) (by kernel_rfl) (fun _ _ _ h => h) (Or.inl ⟨by kernel_rfl, ?h5⟩) (by assumption) ?r5
  case h5 => (intro w hSw; (try dsimp only at hSw); go_simp; try with_reducible rfl)
  try simp only [Act.put, List.setIfInBounds_toArray, List.set_cons_zero, List.set_cons_succ]
  refine wpAnyH_take (i := 5) (oi := { dst := some 10, op := Go.Op.fieldAddr 47 (Go.Operand.tmp 9) 0, type := 0, pos := "file.go:64", after := #[{ on := 4, ground := Go.Ground.data }], guard := none }) (v := ?v6) rfl (by kernel_rfl) (by kernel_rfl) (by kernel_rfl) (fun _ _ _ h => h) (Or.inl ⟨by kernel_rfl, ?h6⟩) (by assumption) ?r6
  case h6 => (intro w hSw; (try dsimp only at hSw); go_simp; try with_reducible rfl)
  try simp only [Act.put, List.setIfInBounds_toArray, List.set_cons_zero, List.set_cons_succ]
  refine wpAnyH_take (i := 6) (oi := { dst := some 11, op := Go.Op.indexAddr 45 (Go.Operand.tmp 10) (Go.Operand.tmp 8), type := 0, pos := "file.go:64", after := #[{ on := 5, ground := Go.Ground.data }, { on := 3, ground := Go.Ground.data }], guard := none }) (v := ?v7) rfl (by kernel_rfl) (by kernel_rfl) (by kernel_rfl) (fun _ _ _ h => h) (Or.inl ⟨by kernel_rfl, ?h7⟩) (by assumption) ?r7
  case h7 => (intro w hSw; (try dsimp only at hSw); go_simp; try with_reducible rfl)
  try simp only [Act.put, List.setIfInBounds_toArray, List.set_cons_zero, List.set_cons_succ]
  refine wpAnyH_take (i := 8) (oi := { dst := some 13, op := Go.Op.load 30 (Go.Operand.tmp 3), type := 30, pos := "file.go:64", after := #[], guard := none }) (v := ?v8) rfl (by kernel_rfl) (by kernel_rfl) (by kernel_rfl) (fun _ _ _ h => h) (Or.inl ⟨by kernel_rfl, ?h8⟩) (by assumption) ?r8
  case h8 => (intro w hSw; (try dsimp only at hSw); go_simp; try with_reducible rfl)
  try simp only [Act.put, List.setIfInBounds_toArray, List.set_cons_zero, List.set_cons_succ]
  refine wpAnyH_take (i := 9) (oi := { dst := some 14, op := Go.Op.move (Go.Operand.tmp 0), type := 3, pos := "file.go:64", after := #[], guard := none }) (v := ?v9) rfl (by kernel_rfl) (by kernel_rfl) (by kernel_rfl) (fun _ _ _ h => h) (Or.inl ⟨by kernel_rfl, ?h9⟩) (by assumption) ?r9
  case h9 => (intro w hSw; (try dsimp only at hSw); go_simp; try with_reducible rfl)
  try simp only [Act.put, List.setIfInBounds_toArray, List.set_cons_zero, List.set_cons_succ]
  refine wpAnyH_take (i := 10) (oi := { dst := some 15, op := Go.Op.slice 30 (Go.Operand.tmp 13) none (some (Go.Operand.tmp 14)) none, type := 30, pos := "file.go:64", after := #[{ on := 8, ground := Go.Ground.data }, { on := 9, ground := Go.Ground.data }], guard := none }) (v := ?v10) rfl (by kernel_rfl) (by kernel_rfl) (by kernel_rfl) (fun _ _ _ h => h) (Or.inl ⟨by kernel_rfl, ?h10⟩) (by assumption) ?r10
  case h10 => (intro w hSw; (try dsimp only at hSw); go_simp; try with_reducible rfl)
  try simp only [Act.put, List.setIfInBounds_toArray, List.set_cons_zero, List.set_cons_succ]
  refine wpAnyH_take (i := 12) (oi := { dst := some 17, op := Go.Op.nilCheck (Go.Operand.tmp 5), type := 0, pos := "file.go:64", after := #[{ on := 0, ground := Go.Ground.data }], guard := none }) (v := ?v11) rfl (by kernel_rfl) (by kernel_rfl) (by kernel_rfl) (fun _ _ _ h => h) (Or.inl ⟨by kernel_rfl, ?h11⟩) (by assumption) ?r11
  case h11 => (intro w hSw; (try dsimp only at hSw); go_simp; try with_reducible rfl)
  try simp only [Act.put, List.setIfInBounds_toArray, List.set_cons_zero, List.set_cons_succ]
  refine wpAnyH_take (i := 13) (oi := { dst := some 18, op := Go.Op.fieldAddr 47 (Go.Operand.tmp 17) 0, type := 0, pos := "file.go:64", after := #[{ on := 12, ground := Go.Ground.data }], guard := none }) (v := ?v12) rfl (by kernel_rfl) (by kernel_rfl) (by kernel_rfl) (fun _ _ _ h => h) (Or.inl ⟨by kernel_rfl, ?h12⟩) (by assumption) ?r12
  case h12 => (intro w hSw; (try dsimp only at hSw); go_simp; try with_reducible rfl)
  try simp only [Act.put, List.setIfInBounds_toArray, List.set_cons_zero, List.set_cons_succ]
  refine wpAnyH_ready (rs := [7]) (by kernel_rfl) (by simp) ?_
  refine AllReadyH.cons (o := { dst := some 12, op := Go.Op.load 30 (Go.Operand.tmp 11), type := 30, pos := "file.go:64", after := #[{ on := 6, ground := Go.Ground.data }], guard := none }) rfl (fun K hK => ?_) AllReadyH.nil
  go_simp
  refine hK.out _ _ hHeld (fun hHeld => ?_)
  clear hK K
  try simp only [Act.put, List.setIfInBounds_toArray, List.set_cons_zero, List.set_cons_succ]
  refine wpAnyH_ready (rs := [11]) (by kernel_rfl) (by simp) ?_
  refine AllReadyH.cons (o := { dst := some 16, op := Go.Op.call { callee := Go.Callee.builtin Go.Builtin.append, args := #[Go.Operand.tmp 12, Go.Operand.tmp 15], argTypes := #[30, 30] }, type := 30, pos := "file.go:64", after := #[{ on := 7, ground := Go.Ground.data }, { on := 10, ground := Go.Ground.data }], guard := none }) rfl (fun K hK => ?_) AllReadyH.nil
  refine wp_append_foot _ (.tmp 12) (.tmp 15) 30 rfl 5 i0 (.int .u8 0) 1 Try.underlying30 hi hz0 hz1 hz2 rfl .u8 _ (s.l 0) (own_belowE (X := []) hO'.out ((BelowE.refl _ _ _).drew) (by simp)) w.heap.size A (b.take p) see'.out p _ hlen'.out rfl rfl (by have := hbd'.out; unfold maxLen; omega) (by have := hbd'.out; omega) ?_
  intro v' w1 own1 grow1 blk1
  obtain ⟨a1, c1, rfl, -, -⟩ := sees_own own1
  have hg2 : BelowE F w.heap.size w w1 := hHeld.grown grow1 (Nat.le_refl _) (fun k hk _ => (hM'.out k hk).1)
  have hblk1 : Holds w1 d 47 #[.slice av (s.l 0).length cv, v1, .bool s.off, .bool s.armed, .int .i64 s.left] := (grow1.block d h1'.out.lt (fun e => (hM'.out d e.symm).2 rfl)).trans h1'.out
  have gN := hblk1.cell 0
  have gf := hblk1.free 0
  simp at gN
  refine hK.out _ _ (hg2) (fun hHeld => ?_)
  clear hK K
  try simp only [Act.put, List.setIfInBounds_toArray, List.set_cons_zero, List.set_cons_succ]
  refine wpAnyH_take (i := 14) (oi := { dst := some 19, op := Go.Op.indexAddr 45 (Go.Operand.tmp 18) (Go.Operand.tmp 6), type := 0, pos := "file.go:64", after := #[{ on := 13, ground := Go.Ground.data }, { on := 1, ground := Go.Ground.data }, { on := 0, ground := Go.Ground.phase }, { on := 1, ground := Go.Ground.phase }, { on := 2, ground := Go.Ground.phase }, { on := 3, ground := Go.Ground.phase }, { on := 4, ground := Go.Ground.phase }, { on := 5, ground := Go.Ground.phase }, { on := 6, ground := Go.Ground.phase }, { on := 7, ground := Go.Ground.phase }, { on := 8, ground := Go.Ground.phase }, { on := 9, ground := Go.Ground.phase }, { on := 10, ground := Go.Ground.phase }, { on := 11, ground := Go.Ground.phase }], guard := none }) (v := ?v13) rfl (by kernel_rfl) (by kernel_rfl) (by kernel_rfl) (fun _ _ _ h => h) (Or.inl ⟨by kernel_rfl, ?h13⟩) (by assumption) ?r13
  case h13 => (intro w hSw; (try dsimp only at hSw); go_simp; try with_reducible rfl)
  try simp only [Act.put, List.setIfInBounds_toArray, List.set_cons_zero, List.set_cons_succ]
  refine wpAnyH_ready (rs := [15]) (by kernel_rfl) (by simp) ?_
  refine AllReadyH.cons (o := { dst := none, op := Go.Op.store 30 (Go.Operand.tmp 19) (Go.Operand.tmp 16), type := 0, pos := "file.go:64", after := #[{ on := 14, ground := Go.Ground.data }, { on := 11, ground := Go.Ground.data }, { on := 11, ground := Go.Ground.chain }, { on := 0, ground := Go.Ground.phase }, { on := 1, ground := Go.Ground.phase }, { on := 2, ground := Go.Ground.phase }, { on := 3, ground := Go.Ground.phase }, { on := 4, ground := Go.Ground.phase }, { on := 5, ground := Go.Ground.phase }, { on := 6, ground := Go.Ground.phase }, { on := 7, ground := Go.Ground.phase }, { on := 8, ground := Go.Ground.phase }, { on := 9, ground := Go.Ground.phase }, { on := 10, ground := Go.Ground.phase }, { on := 11, ground := Go.Ground.phase }], guard := none }) rfl (fun K hK => ?_) AllReadyH.nil
  go_simp
  refine hK.out _ _ (hg2.setIn (p := ⟨d, 0, none⟩) h4'.out _) (fun hHeld => ?_)
  clear hK K
  try simp only [Act.put, List.setIfInBounds_toArray, List.set_cons_zero, List.set_cons_succ]
  refine wpAnyH_done (by kernel_rfl) ?_ _
  go_wp2
  go_end0
  obtain ⟨F', k1, k2⟩ := fin'.out w1 _ _ own1 ⟨grow1.os, grow1.tape, grow1.output, grow1.size, grow1.block⟩ blk1
  have e1 : (s.l 0 ++ b.take p).length = (s.l 0).length + p := by simp; omega
  rw [e1] at k1 k2
  exact ⟨rfl, F', k1, k2⟩

theorem wrD_0 (d : Nat) (F : List Nat) (s : St) (p : Nat) (A : Option Addr) (m c : Nat) (b : List Int) (u : FrameMode) (bd bn bb : Nat) (w : World) (h : Dk w d F s)
    (kd : w.cell? ⟨bd, 0, none⟩ = some (.pointer (some ⟨d, 0, none⟩))) (kn : w.cell? ⟨bn, 0, none⟩ = some (.int .i64 0)) (kb : w.cell? ⟨bb, 0, none⟩ = some (.slice A m c)) (hd : bd ∉ F) (hn : bn ∉ F) (hb : bb ∉ F) (hm : m = b.length) (hs : Sees .u8 w.heap.size w A b) (hp : p ≤ b.length) (hc : m ≤ c) (hl : (s.l 0).length + b.length ≤ 100000000) :
    CallsD Try.prog 31 #[.int .i64 p, .pointer (some ⟨bd, 0, none⟩), .pointer (some ⟨bn, 0, none⟩), .pointer (some ⟨bb, 0, none⟩)] u w fun e u' w' => u' = u ∧ Done (s.with_ (upd s.l 0 (s.l 0 ++ b.take p))) d F w e w' := by
  obtain ⟨i0, hi, hz0, hz1, hz2⟩ := info_parts infoU8'
  obtain ⟨v0, v1, h1, h2, h3, h4, h5, h6, h7, h8⟩ := h
  have lbd := World.block_lt_of_cell? w _ kd
  have lbn := World.block_lt_of_cell? w _ kn
  have lbb := World.block_lt_of_cell? w _ kb
  have f0 : ∀ W', BelowE F w.heap.size w W' → W'.cell? ⟨bd, 0, none⟩ = some (.pointer (some ⟨d, 0, none⟩)) := fun W' h => (h.cell (p := ⟨bd, 0, none⟩) lbd hd).trans kd
  have f1 : ∀ W', BelowE F w.heap.size w W' → W'.cell? ⟨bn, 0, none⟩ = some (.int .i64 0) := fun W' h => (h.cell (p := ⟨bn, 0, none⟩) lbn hn).trans kn
  have f2 : ∀ W', BelowE F w.heap.size w W' → W'.cell? ⟨bb, 0, none⟩ = some (.slice A m c) := fun W' h => (h.cell (p := ⟨bb, 0, none⟩) lbb hb).trans kb
  have cN := h1.cell 0
  have fN := h1.free 0
  simp at cN
  have fin := fun (w1 : World) (v' : Value) (l' : List Int) => dk_put0 (w := w) (w1 := w1) (v' := v') (l' := l') h1 h2 h3 h4 h5 h6 h7 h8
  have fin' := Lib.hid fin
  clear fin
  obtain ⟨av, cv, rfl, -, see0⟩ := sees_own h2
  have h1' := Lib.hid h1
  have hM' := Lib.hid h5
  have h4' := Lib.hid h4
  have hO' := Lib.hid h2
  have see' := Lib.hid (hs.take p)
  have hpc : p ≤ c := by omega
  have hlen : p = (b.take p).length := by simp; omega
  have hlen' := Lib.hid hlen
  have hbd' : Hid ((s.l 0).length + (b.take p).length ≤ 140737488355328) := Lib.hid (by simp; omega)
  have hp0 : (p : Int) ≤ 9223372036854775807 := by omega
  clear h1 h2 h3 h4 h5 h6 h7 h8 hlen kd kn kb hd hn hb lbd lbn lbb hs hc see0
  go_enter_d Try.func31, Try.ntmps31
  go_wp2
  refine wp_drawn_on (fun W' => BelowE F w.heap.size w W') (by kernel_rfl) ((BelowE.refl _ _ _).drew) (fun hHeld => ?_)
  refine wpAnyH_take (i := 0) (oi := { dst := some 5, op := Go.Op.load 25 (Go.Operand.tmp 1), type := 25, pos := "file.go:64", after := #[], guard := none }) (v := ?v14) rfl (by kernel_rfl) (by kernel_rfl) (by kernel_rfl) (fun _ _ _ h => h) (Or.inl ⟨by kernel_rfl, ?h14⟩) (by assumption) ?r14
  case h14 => (intro w hSw; (try dsimp only at hSw); go_simp; try with_reducible rfl)
  try simp only [Act.put, List.setIfInBounds_toArray, List.set_cons_zero, List.set_cons_succ]
  refine wpAnyH_take (i := 1) (oi := { dst := some 6, op := Go.Op.load 3 (Go.Operand.tmp 2), type := 3, pos := "file.go:64", after := #[], guard := none }) (v := ?v15) rfl (by kernel_rfl) (by kernel_rfl) (by kernel_rfl) (fun _ _ _ h => h) (Or.inl ⟨by kernel_rfl, ?h15⟩) (by assumption) ?r15
  case h15 => (intro w hSw; (try dsimp only at hSw); go_simp; try with_reducible rfl)
  try simp only [Act.put, List.setIfInBounds_toArray, List.set_cons_zero, List.set_cons_succ]
  refine wpAnyH_take (i := 2) (oi := { dst := some 7, op := Go.Op.load 25 (Go.Operand.tmp 1), type := 25, pos := "file.go:64", after := #[], guard := none }) (v := ?v16) rfl (by kernel_rfl) (by kernel_rfl) (by kernel_rfl) (fun _ _ _ h => h) (Or.inl ⟨by kernel_rfl, ?h16⟩) (by assumption) ?r16
  case h16 => (intro w hSw; (try dsimp only at hSw); go_simp; try with_reducible rfl)
  try simp only [Act.put, List.setIfInBounds_toArray, List.set_cons_zero, List.set_cons_succ]
  refine wpAnyH_take (i := 3) (oi := { dst := some 8, op := Go.Op.load 3 (Go.Operand.tmp 2), type := 3, pos := "file.go:64", after := #[], guard := none }) (v := ?v17) rfl (by kernel_rfl) (by kernel_rfl) (by kernel_rfl) (fun _ _ _ h => h) (Or.inl ⟨by kernel_rfl, ?h17⟩) (by assumption) ?r17
  case h17 => (intro w hSw; (try dsimp only at hSw); go_simp; try with_reducible rfl)
  try simp only [Act.put, List.setIfInBounds_toArray, List.set_cons_zero, List.set_cons_succ]
  refine wpAnyH_take (i := 4) (oi := { dst := some 9, op := Go.Op.nilCheck (Go.Operand.tmp 7), type := 0, pos := "file.go:64", after := #[{ on := 2, ground := Go.Ground.data }], guard := none }) (v := ?v18) rfl (by kernel_rfl) (by kernel_rfl) (by kernel_rfl) (fun _ _ _ h => h) (Or.inl ⟨by kernel_rfl, ?h18⟩) (by assumption) ?r18
  case h18 => (intro w hSw; (try dsimp only at hSw); go_simp; try with_reducible rfl)
  try simp only [Act.put, List.setIfInBounds_toArray, List.set_cons_zero, List.set_cons_succ]
  refine wpAnyH_take (i := 5) (oi := { dst := some 10, op := Go.Op.fieldAddr 47 (Go.Operand.tmp 9) 0, type := 0, pos := "file.go:64", after := #[{ on := 4, ground := Go.Ground.data }], guard := none }) (v := ?v19) rfl (by kernel_rfl) (by kernel_rfl) (by kernel_rfl) (fun _ _ _ h => h) (Or.inl ⟨by kernel_rfl, ?h19⟩) (by assumption) ?r19
  case h19 => (intro w hSw; (try dsimp only at hSw); go_simp; try with_reducible rfl)
  try simp only [Act.put, List.setIfInBounds_toArray, List.set_cons_zero, List.set_cons_succ]
  refine wpAnyH_take (i := 6) (oi := { dst := some 11, op := Go.Op.indexAddr 45 (Go.Operand.tmp 10) (Go.Operand.tmp 8), type := 0, pos := "file.go:64", after := #[{ on := 5, ground := Go.Ground.data }, { on := 3, ground := Go.Ground.data }], guard := none }) (v := ?v20) rfl (by kernel_rfl) (by kernel_rfl) (by kernel_rfl) (fun _ _ _ h => h) (Or.inl ⟨by kernel_rfl, ?h20⟩) (by assumption) ?r20
  case h20 => (intro w hSw; (try dsimp only at hSw); go_simp; try with_reducible rfl)
  try simp only [Act.put, List.setIfInBounds_toArray, List.set_cons_zero, List.set_cons_succ]
  refine wpAnyH_take (i := 8) (oi := { dst := some 13, op := Go.Op.load 30 (Go.Operand.tmp 3), type := 30, pos := "file.go:64", after := #[], guard := none }) (v := ?v21) rfl (by kernel_rfl) (by kernel_rfl) (by kernel_rfl) (fun _ _ _ h => h) (Or.inl ⟨by kernel_rfl, ?h21⟩) (by assumption) ?r21
  case h21 => (intro w hSw; (try dsimp only at hSw); go_simp; try with_reducible rfl)
  try simp only [Act.put, List.setIfInBounds_toArray, List.set_cons_zero, List.set_cons_succ]
  refine wpAnyH_take (i := 9) (oi := { dst := some 14, op := Go.Op.move (Go.Operand.tmp 0), type := 3, pos := "file.go:64", after := #[], guard := none }) (v := ?v22) rfl (by kernel_rfl) (by kernel_rfl) (by kernel_rfl) (fun _ _ _ h => h) (Or.inl ⟨by kernel_rfl, ?h22⟩) (by assumption) ?r22
  case h22 => (intro w hSw; (try dsimp only at hSw); go_simp; try with_reducible rfl)
  try simp only [Act.put, List.setIfInBounds_toArray, List.set_cons_zero, List.set_cons_succ]
  refine wpAnyH_take (i := 10) (oi := { dst := some 15, op := Go.Op.slice 30 (Go.Operand.tmp 13) none (some (Go.Operand.tmp 14)) none, type := 30, pos := "file.go:64", after := #[{ on := 8, ground := Go.Ground.data }, { on := 9, ground := Go.Ground.data }], guard := none }) (v := ?v23) rfl (by kernel_rfl) (by kernel_rfl) (by kernel_rfl) (fun _ _ _ h => h) (Or.inl ⟨by kernel_rfl, ?h23⟩) (by assumption) ?r23
  case h23 => (intro w hSw; (try dsimp only at hSw); go_simp; try with_reducible rfl)
  try simp only [Act.put, List.setIfInBounds_toArray, List.set_cons_zero, List.set_cons_succ]
  refine wpAnyH_take (i := 12) (oi := { dst := some 17, op := Go.Op.nilCheck (Go.Operand.tmp 5), type := 0, pos := "file.go:64", after := #[{ on := 0, ground := Go.Ground.data }], guard := none }) (v := ?v24) rfl (by kernel_rfl) (by kernel_rfl) (by kernel_rfl) (fun _ _ _ h => h) (Or.inl ⟨by kernel_rfl, ?h24⟩) (by assumption) ?r24
  case h24 => (intro w hSw; (try dsimp only at hSw); go_simp; try with_reducible rfl)
  try simp only [Act.put, List.setIfInBounds_toArray, List.set_cons_zero, List.set_cons_succ]
  refine wpAnyH_take (i := 13) (oi := { dst := some 18, op := Go.Op.fieldAddr 47 (Go.Operand.tmp 17) 0, type := 0, pos := "file.go:64", after := #[{ on := 12, ground := Go.Ground.data }], guard := none }) (v := ?v25) rfl (by kernel_rfl) (by kernel_rfl) (by kernel_rfl) (fun _ _ _ h => h) (Or.inl ⟨by kernel_rfl, ?h25⟩) (by assumption) ?r25
  case h25 => (intro w hSw; (try dsimp only at hSw); go_simp; try with_reducible rfl)
  try simp only [Act.put, List.setIfInBounds_toArray, List.set_cons_zero, List.set_cons_succ]
  refine wpAnyH_ready (rs := [7]) (by kernel_rfl) (by simp) ?_
  refine AllReadyH.cons (o := { dst := some 12, op := Go.Op.load 30 (Go.Operand.tmp 11), type := 30, pos := "file.go:64", after := #[{ on := 6, ground := Go.Ground.data }], guard := none }) rfl (fun K hK => ?_) AllReadyH.nil
  go_simp
  refine hK.out _ _ hHeld (fun hHeld => ?_)
  clear hK K
  try simp only [Act.put, List.setIfInBounds_toArray, List.set_cons_zero, List.set_cons_succ]
  refine wpAnyH_ready (rs := [11]) (by kernel_rfl) (by simp) ?_
  refine AllReadyH.cons (o := { dst := some 16, op := Go.Op.call { callee := Go.Callee.builtin Go.Builtin.append, args := #[Go.Operand.tmp 12, Go.Operand.tmp 15], argTypes := #[30, 30] }, type := 30, pos := "file.go:64", after := #[{ on := 7, ground := Go.Ground.data }, { on := 10, ground := Go.Ground.data }], guard := none }) rfl (fun K hK => ?_) AllReadyH.nil
  refine wp_append_foot _ (.tmp 12) (.tmp 15) 30 rfl 5 i0 (.int .u8 0) 1 Try.underlying30 hi hz0 hz1 hz2 rfl .u8 _ (s.l 0) (own_belowE (X := []) hO'.out ((BelowE.refl _ _ _).drew) (by simp)) w.heap.size A (b.take p) see'.out p _ hlen'.out rfl rfl (by have := hbd'.out; unfold maxLen; omega) (by have := hbd'.out; omega) ?_
  intro v' w1 own1 grow1 blk1
  obtain ⟨a1, c1, rfl, -, -⟩ := sees_own own1
  have hg2 : BelowE F w.heap.size w w1 := hHeld.grown grow1 (Nat.le_refl _) (fun k hk _ => (hM'.out k hk).1)
  have hblk1 : Holds w1 d 47 #[.slice av (s.l 0).length cv, v1, .bool s.off, .bool s.armed, .int .i64 s.left] := (grow1.block d h1'.out.lt (fun e => (hM'.out d e.symm).2 rfl)).trans h1'.out
  have gN := hblk1.cell 0
  have gf := hblk1.free 0
  simp at gN
  refine hK.out _ _ (hg2) (fun hHeld => ?_)
  clear hK K
  try simp only [Act.put, List.setIfInBounds_toArray, List.set_cons_zero, List.set_cons_succ]
  refine wpAnyH_take (i := 14) (oi := { dst := some 19, op := Go.Op.indexAddr 45 (Go.Operand.tmp 18) (Go.Operand.tmp 6), type := 0, pos := "file.go:64", after := #[{ on := 13, ground := Go.Ground.data }, { on := 1, ground := Go.Ground.data }, { on := 0, ground := Go.Ground.phase }, { on := 1, ground := Go.Ground.phase }, { on := 2, ground := Go.Ground.phase }, { on := 3, ground := Go.Ground.phase }, { on := 4, ground := Go.Ground.phase }, { on := 5, ground := Go.Ground.phase }, { on := 6, ground := Go.Ground.phase }, { on := 7, ground := Go.Ground.phase }, { on := 8, ground := Go.Ground.phase }, { on := 9, ground := Go.Ground.phase }, { on := 10, ground := Go.Ground.phase }, { on := 11, ground := Go.Ground.phase }], guard := none }) (v := ?v26) rfl (by kernel_rfl) (by kernel_rfl) (by kernel_rfl) (fun _ _ _ h => h) (Or.inl ⟨by kernel_rfl, ?h26⟩) (by assumption) ?r26
  case h26 => (intro w hSw; (try dsimp only at hSw); go_simp; try with_reducible rfl)
  try simp only [Act.put, List.setIfInBounds_toArray, List.set_cons_zero, List.set_cons_succ]
  refine wpAnyH_ready (rs := [15]) (by kernel_rfl) (by simp) ?_
  refine AllReadyH.cons (o := { dst := none, op := Go.Op.store 30 (Go.Operand.tmp 19) (Go.Operand.tmp 16), type := 0, pos := "file.go:64", after := #[{ on := 14, ground := Go.Ground.data }, { on := 11, ground := Go.Ground.data }, { on := 11, ground := Go.Ground.chain }, { on := 0, ground := Go.Ground.phase }, { on := 1, ground := Go.Ground.phase }, { on := 2, ground := Go.Ground.phase }, { on := 3, ground := Go.Ground.phase }, { on := 4, ground := Go.Ground.phase }, { on := 5, ground := Go.Ground.phase }, { on := 6, ground := Go.Ground.phase }, { on := 7, ground := Go.Ground.phase }, { on := 8, ground := Go.Ground.phase }, { on := 9, ground := Go.Ground.phase }, { on := 10, ground := Go.Ground.phase }, { on := 11, ground := Go.Ground.phase }], guard := none }) rfl (fun K hK => ?_) AllReadyH.nil
  go_simp
  refine hK.out _ _ (hg2.setIn (p := ⟨d, 0, none⟩) h4'.out _) (fun hHeld => ?_)
  clear hK K
  try simp only [Act.put, List.setIfInBounds_toArray, List.set_cons_zero, List.set_cons_succ]
  refine wpAnyH_done (by kernel_rfl) ?_ _
  go_wp2
  go_end0
  obtain ⟨F', k1, k2⟩ := fin'.out w1 _ _ own1 ⟨grow1.os, grow1.tape, grow1.output, grow1.size, grow1.block⟩ blk1
  have e1 : (s.l 0 ++ b.take p).length = (s.l 0).length + p := by simp; omega
  rw [e1] at k1 k2
  exact ⟨rfl, F', k1, k2⟩

theorem wr_1 (d : Nat) (F : List Nat) (s : St) (p : Nat) (A : Option Addr) (m c : Nat) (b : List Int) (bd bn bb : Nat) (w : World) (h : Dk w d F s)
    (kd : w.cell? ⟨bd, 0, none⟩ = some (.pointer (some ⟨d, 0, none⟩))) (kn : w.cell? ⟨bn, 0, none⟩ = some (.int .i64 1)) (kb : w.cell? ⟨bb, 0, none⟩ = some (.slice A m c)) (hd : bd ∉ F) (hn : bn ∉ F) (hb : bb ∉ F) (hm : m = b.length) (hs : Sees .u8 w.heap.size w A b) (hp : p ≤ b.length) (hc : m ≤ c) (hl : (s.l 1).length + b.length ≤ 100000000) :
    Calls Try.prog 31 #[.int .i64 p, .pointer (some ⟨bd, 0, none⟩), .pointer (some ⟨bn, 0, none⟩), .pointer (some ⟨bb, 0, none⟩)] w (Done (s.with_ (upd s.l 1 (s.l 1 ++ b.take p))) d F w) := by
  obtain ⟨i0, hi, hz0, hz1, hz2⟩ := info_parts infoU8'
  obtain ⟨v0, v1, h1, h2, h3, h4, h5, h6, h7, h8⟩ := h
  have lbd := World.block_lt_of_cell? w _ kd
  have lbn := World.block_lt_of_cell? w _ kn
  have lbb := World.block_lt_of_cell? w _ kb
  have f0 : ∀ W', BelowE F w.heap.size w W' → W'.cell? ⟨bd, 0, none⟩ = some (.pointer (some ⟨d, 0, none⟩)) := fun W' h => (h.cell (p := ⟨bd, 0, none⟩) lbd hd).trans kd
  have f1 : ∀ W', BelowE F w.heap.size w W' → W'.cell? ⟨bn, 0, none⟩ = some (.int .i64 1) := fun W' h => (h.cell (p := ⟨bn, 0, none⟩) lbn hn).trans kn
  have f2 : ∀ W', BelowE F w.heap.size w W' → W'.cell? ⟨bb, 0, none⟩ = some (.slice A m c) := fun W' h => (h.cell (p := ⟨bb, 0, none⟩) lbb hb).trans kb
  have cN := h1.cell 1
  have fN := h1.free 1
  simp at cN
  have fin := fun (w1 : World) (v' : Value) (l' : List Int) => dk_put1 (w := w) (w1 := w1) (v' := v') (l' := l') h1 h2 h3 h4 h5 h6 h7 h8
  have fin' := Lib.hid fin
  clear fin
  obtain ⟨av, cv, rfl, -, see0⟩ := sees_own h3
  have h1' := Lib.hid h1
  have hM' := Lib.hid h6
  have h4' := Lib.hid h4
  have hO' := Lib.hid h3
  have see' := Lib.hid (hs.take p)
  have hpc : p ≤ c := by omega
  have hlen : p = (b.take p).length := by simp; omega
  have hlen' := Lib.hid hlen
  have hbd' : Hid ((s.l 1).length + (b.take p).length ≤ 140737488355328) := Lib.hid (by simp; omega)
  have hp0 : (p : Int) ≤ 9223372036854775807 := by omega
  clear h1 h2 h3 h4 h5 h6 h7 h8 hlen kd kn kb hd hn hb lbd lbn lbb hs hc see0
  go_enter Try.func31, Try.ntmps31
  go_wp2
  refine wp_drawn_on (fun W' => BelowE F w.heap.size w W') (by kernel_rfl) ((BelowE.refl _ _ _).drew) (fun hHeld => ?_)
  refine wpAnyH_take (i := 0) (oi := { dst := some 5, op := Go.Op.load 25 (Go.Operand.tmp 1), type := 25, pos := "file.go:64", after := #[], guard := none }) (v := ?v27) rfl (by kernel_rfl) (by kernel_rfl) (by kernel_rfl) (fun _ _ _ h => h) (Or.inl ⟨by kernel_rfl, ?h27⟩) (by assumption) ?r27
  case h27 => (intro w hSw; (try dsimp only at hSw); go_simp; try with_reducible rfl)
  try simp only [Act.put, List.setIfInBounds_toArray, List.set_cons_zero, List.set_cons_succ]
  refine wpAnyH_take (i := 1) (oi := { dst := some 6, op := Go.Op.load 3 (Go.Operand.tmp 2), type := 3, pos := "file.go:64", after := #[], guard := none }) (v := ?v28) rfl (by kernel_rfl) (by kernel_rfl) (by kernel_rfl) (fun _ _ _ h => h) (Or.inl ⟨by kernel_rfl, ?h28⟩) (by assumption) ?r28
  case h28 => (intro w hSw; (try dsimp only at hSw); go_simp; try with_reducible rfl)
  try simp only [Act.put, List.setIfInBounds_toArray, List.set_cons_zero, List.set_cons_succ]
  refine wpAnyH_take (i := 2) (oi := { dst := some 7, op := Go.Op.load 25 (Go.Operand.tmp 1), type := 25, pos := "file.go:64", after := #[], guard := none }) (v := ?v29) rfl (by kernel_rfl) (by kernel_rfl) (by kernel_rfl) (fun _ _ _ h => h) (Or.inl ⟨by kernel_rfl, ?h29⟩) (by assumption) ?r29
  case h29 => (intro w hSw; (try dsimp only at hSw); go_simp; try with_reducible rfl)
  try simp only [Act.put, List.setIfInBounds_toArray, List.set_cons_zero, List.set_cons_succ]
  refine wpAnyH_take (i := 3) (oi := { dst := some 8, op := Go.Op.load 3 (Go.Operand.tmp 2), type := 3, pos := "file.go:64", after := #[], guard := none }) (v := ?v30) rfl (by kernel_rfl) (by kernel_rfl) (by kernel_rfl) (fun _ _ _ h => h) (Or.inl ⟨by kernel_rfl, ?h30⟩) (by assumption) ?r30
  case h30 => (intro w hSw; (try dsimp only at hSw); go_simp; try with_reducible rfl)
  try simp only [Act.put, List.setIfInBounds_toArray, List.set_cons_zero, List.set_cons_succ]
  refine wpAnyH_take (i := 4) (oi := { dst := some 9, op := Go.Op.nilCheck (Go.Operand.tmp 7), type := 0, pos := "file.go:64", after := #[{ on := 2, ground := Go.Ground.data }], guard := none }) (v := ?v31) rfl (by kernel_rfl) (by kernel_rfl) (by kernel_rfl) (fun _ _ _ h => h) (Or.inl ⟨by kernel_rfl, ?h31⟩) (by assumption) ?r31
  case h31 => (intro w hSw; (try dsimp only at hSw); go_simp; try with_reducible rfl)
  try simp only [Act.put, List.setIfInBounds_toArray, List.set_cons_zero, List.set_cons_succ]
  refine wpAnyH_take (i := 5) (oi := { dst := some 10, op := Go.Op.fieldAddr 47 (Go.Operand.tmp 9) 0, type := 0, pos := "file.go:64", after := #[{ on := 4, ground := Go.Ground.data }], guard := none }) (v := ?v32) rfl (by kernel_rfl) (by kernel_rfl) (by kernel_rfl) (fun _ _ _ h => h) (Or.inl ⟨by kernel_rfl, ?h32⟩) (by assumption) ?r32
  case h32 => (intro w hSw; (try dsimp only at hSw); go_simp; try with_reducible rfl)
  try simp only [Act.put, List.setIfInBounds_toArray, List.set_cons_zero, List.set_cons_succ]
  refine wpAnyH_take (i := 6) (oi := { dst := some 11, op := Go.Op.indexAddr 45 (Go.Operand.tmp 10) (Go.Operand.tmp 8), type := 0, pos := "file.go:64", after := #[{ on := 5, ground := Go.Ground.data }, { on := 3, ground := Go.Ground.data }], guard := none }) (v := ?v33) rfl (by kernel_rfl) (by kernel_rfl) (by kernel_rfl) (fun _ _ _ h => h) (Or.inl ⟨by kernel_rfl, ?h33⟩) (by assumption) ?r33
  case h33 => (intro w hSw; (try dsimp only at hSw); go_simp; try with_reducible rfl)
  try simp only [Act.put, List.setIfInBounds_toArray, List.set_cons_zero, List.set_cons_succ]
  refine wpAnyH_take (i := 8) (oi := { dst := some 13, op := Go.Op.load 30 (Go.Operand.tmp 3), type := 30, pos := "file.go:64", after := #[], guard := none }) (v := ?v34) rfl (by kernel_rfl) (by kernel_rfl) (by kernel_rfl) (fun _ _ _ h => h) (Or.inl ⟨by kernel_rfl, ?h34⟩) (by assumption) ?r34
  case h34 => (intro w hSw; (try dsimp only at hSw); go_simp; try with_reducible rfl)
  try simp only [Act.put, List.setIfInBounds_toArray, List.set_cons_zero, List.set_cons_succ]
  refine wpAnyH_take (i := 9) (oi := { dst := some 14, op := Go.Op.move (Go.Operand.tmp 0), type := 3, pos := "file.go:64", after := #[], guard := none }) (v := ?v35) rfl (by kernel_rfl) (by kernel_rfl) (by kernel_rfl) (fun _ _ _ h => h) (Or.inl ⟨by kernel_rfl, ?h35⟩) (by assumption) ?r35
  case h35 => (intro w hSw; (try dsimp only at hSw); go_simp; try with_reducible rfl)
  try simp only [Act.put, List.setIfInBounds_toArray, List.set_cons_zero, List.set_cons_succ]
  refine wpAnyH_take (i := 10) (oi := { dst := some 15, op := Go.Op.slice 30 (Go.Operand.tmp 13) none (some (Go.Operand.tmp 14)) none, type := 30, pos := "file.go:64", after := #[{ on := 8, ground := Go.Ground.data }, { on := 9, ground := Go.Ground.data }], guard := none }) (v := ?v36) rfl (by kernel_rfl) (by kernel_rfl) (by kernel_rfl) (fun _ _ _ h => h) (Or.inl ⟨by kernel_rfl, ?h36⟩) (by assumption) ?r36
  case h36 => (intro w hSw; (try dsimp only at hSw); go_simp; try with_reducible rfl)
  try simp only [Act.put, List.setIfInBounds_toArray, List.set_cons_zero, List.set_cons_succ]
  refine wpAnyH_take (i := 12) (oi := { dst := some 17, op := Go.Op.nilCheck (Go.Operand.tmp 5), type := 0, pos := "file.go:64", after := #[{ on := 0, ground := Go.Ground.data }], guard := none }) (v := ?v37) rfl (by kernel_rfl) (by kernel_rfl) (by kernel_rfl) (fun _ _ _ h => h) (Or.inl ⟨by kernel_rfl, ?h37⟩) (by assumption) ?r37
  case h37 => (intro w hSw; (try dsimp only at hSw); go_simp; try with_reducible rfl)
  try simp only [Act.put, List.setIfInBounds_toArray, List.set_cons_zero, List.set_cons_succ]
  refine wpAnyH_take (i := 13) (oi := { dst := some 18, op := Go.Op.fieldAddr 47 (Go.Operand.tmp 17) 0, type := 0, pos := "file.go:64", after := #[{ on := 12, ground := Go.Ground.data }], guard := none }) (v := ?v38) rfl (by kernel_rfl) (by kernel_rfl) (by kernel_rfl) (fun _ _ _ h => h) (Or.inl ⟨by kernel_rfl, ?h38⟩) (by assumption) ?r38
  case h38 => (intro w hSw; (try dsimp only at hSw); go_simp; try with_reducible rfl)
  try simp only [Act.put, List.setIfInBounds_toArray, List.set_cons_zero, List.set_cons_succ]
  refine wpAnyH_ready (rs := [7]) (by kernel_rfl) (by simp) ?_
  refine AllReadyH.cons (o := { dst := some 12, op := Go.Op.load 30 (Go.Operand.tmp 11), type := 30, pos := "file.go:64", after := #[{ on := 6, ground := Go.Ground.data }], guard := none }) rfl (fun K hK => ?_) AllReadyH.nil
  go_simp
  refine hK.out _ _ hHeld (fun hHeld => ?_)
  clear hK K
  try simp only [Act.put, List.setIfInBounds_toArray, List.set_cons_zero, List.set_cons_succ]
  refine wpAnyH_ready (rs := [11]) (by kernel_rfl) (by simp) ?_
  refine AllReadyH.cons (o := { dst := some 16, op := Go.Op.call { callee := Go.Callee.builtin Go.Builtin.append, args := #[Go.Operand.tmp 12, Go.Operand.tmp 15], argTypes := #[30, 30] }, type := 30, pos := "file.go:64", after := #[{ on := 7, ground := Go.Ground.data }, { on := 10, ground := Go.Ground.data }], guard := none }) rfl (fun K hK => ?_) AllReadyH.nil
  refine wp_append_foot _ (.tmp 12) (.tmp 15) 30 rfl 5 i0 (.int .u8 0) 1 Try.underlying30 hi hz0 hz1 hz2 rfl .u8 _ (s.l 1) (own_belowE (X := []) hO'.out ((BelowE.refl _ _ _).drew) (by simp)) w.heap.size A (b.take p) see'.out p _ hlen'.out rfl rfl (by have := hbd'.out; unfold maxLen; omega) (by have := hbd'.out; omega) ?_
  intro v' w1 own1 grow1 blk1
  obtain ⟨a1, c1, rfl, -, -⟩ := sees_own own1
  have hg2 : BelowE F w.heap.size w w1 := hHeld.grown grow1 (Nat.le_refl _) (fun k hk _ => (hM'.out k hk).1)
  have hblk1 : Holds w1 d 47 #[v0, .slice av (s.l 1).length cv, .bool s.off, .bool s.armed, .int .i64 s.left] := (grow1.block d h1'.out.lt (fun e => (hM'.out d e.symm).2 rfl)).trans h1'.out
  have gN := hblk1.cell 1
  have gf := hblk1.free 1
  simp at gN
  refine hK.out _ _ (hg2) (fun hHeld => ?_)
  clear hK K
  try simp only [Act.put, List.setIfInBounds_toArray, List.set_cons_zero, List.set_cons_succ]
  refine wpAnyH_take (i := 14) (oi := { dst := some 19, op := Go.Op.indexAddr 45 (Go.Operand.tmp 18) (Go.Operand.tmp 6), type := 0, pos := "file.go:64", after := #[{ on := 13, ground := Go.Ground.data }, { on := 1, ground := Go.Ground.data }, { on := 0, ground := Go.Ground.phase }, { on := 1, ground := Go.Ground.phase }, { on := 2, ground := Go.Ground.phase }, { on := 3, ground := Go.Ground.phase }, { on := 4, ground := Go.Ground.phase }, { on := 5, ground := Go.Ground.phase }, { on := 6, ground := Go.Ground.phase }, { on := 7, ground := Go.Ground.phase }, { on := 8, ground := Go.Ground.phase }, { on := 9, ground := Go.Ground.phase }, { on := 10, ground := Go.Ground.phase }, { on := 11, ground := Go.Ground.phase }], guard := none }) (v := ?v39) rfl (by kernel_rfl) (by kernel_rfl) (by kernel_rfl) (fun _ _ _ h => h) (Or.inl ⟨by kernel_rfl, ?h39⟩) (by assumption) ?r39
  case h39 => (intro w hSw; (try dsimp only at hSw); go_simp; try with_reducible rfl)
  try simp only [Act.put, List.setIfInBounds_toArray, List.set_cons_zero, List.set_cons_succ]
  refine wpAnyH_ready (rs := [15]) (by kernel_rfl) (by simp) ?_
  refine AllReadyH.cons (o := { dst := none, op := Go.Op.store 30 (Go.Operand.tmp 19) (Go.Operand.tmp 16), type := 0, pos := "file.go:64", after := #[{ on := 14, ground := Go.Ground.data }, { on := 11, ground := Go.Ground.data }, { on := 11, ground := Go.Ground.chain }, { on := 0, ground := Go.Ground.phase }, { on := 1, ground := Go.Ground.phase }, { on := 2, ground := Go.Ground.phase }, { on := 3, ground := Go.Ground.phase }, { on := 4, ground := Go.Ground.phase }, { on := 5, ground := Go.Ground.phase }, { on := 6, ground := Go.Ground.phase }, { on := 7, ground := Go.Ground.phase }, { on := 8, ground := Go.Ground.phase }, { on := 9, ground := Go.Ground.phase }, { on := 10, ground := Go.Ground.phase }, { on := 11, ground := Go.Ground.phase }], guard := none }) rfl (fun K hK => ?_) AllReadyH.nil
  go_simp
  refine hK.out _ _ (hg2.setIn (p := ⟨d, 1, none⟩) h4'.out _) (fun hHeld => ?_)
  clear hK K
  try simp only [Act.put, List.setIfInBounds_toArray, List.set_cons_zero, List.set_cons_succ]
  refine wpAnyH_done (by kernel_rfl) ?_ _
  go_wp2
  go_end0
  obtain ⟨F', k1, k2⟩ := fin'.out w1 _ _ own1 ⟨grow1.os, grow1.tape, grow1.output, grow1.size, grow1.block⟩ blk1
  have e1 : (s.l 1 ++ b.take p).length = (s.l 1).length + p := by simp; omega
  rw [e1] at k1 k2
  exact ⟨rfl, F', k1, k2⟩

theorem wrD_1 (d : Nat) (F : List Nat) (s : St) (p : Nat) (A : Option Addr) (m c : Nat) (b : List Int) (u : FrameMode) (bd bn bb : Nat) (w : World) (h : Dk w d F s)
    (kd : w.cell? ⟨bd, 0, none⟩ = some (.pointer (some ⟨d, 0, none⟩))) (kn : w.cell? ⟨bn, 0, none⟩ = some (.int .i64 1)) (kb : w.cell? ⟨bb, 0, none⟩ = some (.slice A m c)) (hd : bd ∉ F) (hn : bn ∉ F) (hb : bb ∉ F) (hm : m = b.length) (hs : Sees .u8 w.heap.size w A b) (hp : p ≤ b.length) (hc : m ≤ c) (hl : (s.l 1).length + b.length ≤ 100000000) :
    CallsD Try.prog 31 #[.int .i64 p, .pointer (some ⟨bd, 0, none⟩), .pointer (some ⟨bn, 0, none⟩), .pointer (some ⟨bb, 0, none⟩)] u w fun e u' w' => u' = u ∧ Done (s.with_ (upd s.l 1 (s.l 1 ++ b.take p))) d F w e w' := by
  obtain ⟨i0, hi, hz0, hz1, hz2⟩ := info_parts infoU8'
  obtain ⟨v0, v1, h1, h2, h3, h4, h5, h6, h7, h8⟩ := h
  have lbd := World.block_lt_of_cell? w _ kd
  have lbn := World.block_lt_of_cell? w _ kn
  have lbb := World.block_lt_of_cell? w _ kb
  have f0 : ∀ W', BelowE F w.heap.size w W' → W'.cell? ⟨bd, 0, none⟩ = some (.pointer (some ⟨d, 0, none⟩)) := fun W' h => (h.cell (p := ⟨bd, 0, none⟩) lbd hd).trans kd
  have f1 : ∀ W', BelowE F w.heap.size w W' → W'.cell? ⟨bn, 0, none⟩ = some (.int .i64 1) := fun W' h => (h.cell (p := ⟨bn, 0, none⟩) lbn hn).trans kn
  have f2 : ∀ W', BelowE F w.heap.size w W' → W'.cell? ⟨bb, 0, none⟩ = some (.slice A m c) := fun W' h => (h.cell (p := ⟨bb, 0, none⟩) lbb hb).trans kb
  have cN := h1.cell 1
  have fN := h1.free 1
  simp at cN
  have fin := fun (w1 : World) (v' : Value) (l' : List Int) => dk_put1 (w := w) (w1 := w1) (v' := v') (l' := l') h1 h2 h3 h4 h5 h6 h7 h8
  have fin' := Lib.hid fin
  clear fin
  obtain ⟨av, cv, rfl, -, see0⟩ := sees_own h3
  have h1' := Lib.hid h1
  have hM' := Lib.hid h6
  have h4' := Lib.hid h4
  have hO' := Lib.hid h3
  have see' := Lib.hid (hs.take p)
  have hpc : p ≤ c := by omega
  have hlen : p = (b.take p).length := by simp; omega
  have hlen' := Lib.hid hlen
  have hbd' : Hid ((s.l 1).length + (b.take p).length ≤ 140737488355328) := Lib.hid (by simp; omega)
  have hp0 : (p : Int) ≤ 9223372036854775807 := by omega
  clear h1 h2 h3 h4 h5 h6 h7 h8 hlen kd kn kb hd hn hb lbd lbn lbb hs hc see0
  go_enter_d Try.func31, Try.ntmps31
  go_wp2
  refine wp_drawn_on (fun W' => BelowE F w.heap.size w W') (by kernel_rfl) ((BelowE.refl _ _ _).drew) (fun hHeld => ?_)
  refine wpAnyH_take (i := 0) (oi := { dst := some 5, op := Go.Op.load 25 (Go.Operand.tmp 1), type := 25, pos := "file.go:64", after := #[], guard := none }) (v := ?v40) rfl (by kernel_rfl) (by kernel_rfl) (by kernel_rfl) (fun _ _ _ h => h) (Or.inl ⟨by kernel_rfl, ?h40⟩) (by assumption) ?r40
  case h40 => (intro w hSw; (try dsimp only at hSw); go_simp; try with_reducible rfl)
  try simp only [Act.put, List.setIfInBounds_toArray, List.set_cons_zero, List.set_cons_succ]
  refine wpAnyH_take (i := 1) (oi := { dst := some 6, op := Go.Op.load 3 (Go.Operand.tmp 2), type := 3, pos := "file.go:64", after := #[], guard := none }) (v := ?v41) rfl (by kernel_rfl) (by kernel_rfl) (by kernel_rfl) (fun _ _ _ h => h) (Or.inl ⟨by kernel_rfl, ?h41⟩) (by assumption) ?r41
  case h41 => (intro w hSw; (try dsimp only at hSw); go_simp; try with_reducible rfl)
  try simp only [Act.put, List.setIfInBounds_toArray, List.set_cons_zero, List.set_cons_succ]
  refine wpAnyH_take (i := 2) (oi := { dst := some 7, op := Go.Op.load 25 (Go.Operand.tmp 1), type := 25, pos := "file.go:64", after := #[], guard := none }) (v := ?v42) rfl (by kernel_rfl) (by kernel_rfl) (by kernel_rfl) (fun _ _ _ h => h) (Or.inl ⟨by kernel_rfl, ?h42⟩) (by assumption) ?r42
  case h42 => (intro w hSw; (try dsimp only at hSw); go_simp; try with_reducible rfl)
  try simp only [Act.put, List.setIfInBounds_toArray, List.set_cons_zero, List.set_cons_succ]
  refine wpAnyH_take (i := 3) (oi := { dst := some 8, op := Go.Op.load 3 (Go.Operand.tmp 2), type := 3, pos := "file.go:64", after := #[], guard := none }) (v := ?v43) rfl (by kernel_rfl) (by kernel_rfl) (by kernel_rfl) (fun _ _ _ h => h) (Or.inl ⟨by kernel_rfl, ?h43⟩) (by assumption) ?r43
  case h43 => (intro w hSw; (try dsimp only at hSw); go_simp; try with_reducible rfl)
  try simp only [Act.put, List.setIfInBounds_toArray, List.set_cons_zero, List.set_cons_succ]
  refine wpAnyH_take (i := 4) (oi := { dst := some 9, op := Go.Op.nilCheck (Go.Operand.tmp 7), type := 0, pos := "file.go:64", after := #[{ on := 2, ground := Go.Ground.data }], guard := none }) (v := ?v44) rfl (by kernel_rfl) (by kernel_rfl) (by kernel_rfl) (fun _ _ _ h => h) (Or.inl ⟨by kernel_rfl, ?h44⟩) (by assumption) ?r44
  case h44 => (intro w hSw; (try dsimp only at hSw); go_simp; try with_reducible rfl)
  try simp only [Act.put, List.setIfInBounds_toArray, List.set_cons_zero, List.set_cons_succ]
  refine wpAnyH_take (i := 5) (oi := { dst := some 10, op := Go.Op.fieldAddr 47 (Go.Operand.tmp 9) 0, type := 0, pos := "file.go:64", after := #[{ on := 4, ground := Go.Ground.data }], guard := none }) (v := ?v45) rfl (by kernel_rfl) (by kernel_rfl) (by kernel_rfl) (fun _ _ _ h => h) (Or.inl ⟨by kernel_rfl, ?h45⟩) (by assumption) ?r45
  case h45 => (intro w hSw; (try dsimp only at hSw); go_simp; try with_reducible rfl)
  try simp only [Act.put, List.setIfInBounds_toArray, List.set_cons_zero, List.set_cons_succ]
  refine wpAnyH_take (i := 6) (oi := { dst := some 11, op := Go.Op.indexAddr 45 (Go.Operand.tmp 10) (Go.Operand.tmp 8), type := 0, pos := "file.go:64", after := #[{ on := 5, ground := Go.Ground.data }, { on := 3, ground := Go.Ground.data }], guard := none }) (v := ?v46) rfl (by kernel_rfl) (by kernel_rfl) (by kernel_rfl) (fun _ _ _ h => h) (Or.inl ⟨by kernel_rfl, ?h46⟩) (by assumption) ?r46
  case h46 => (intro w hSw; (try dsimp only at hSw); go_simp; try with_reducible rfl)
  try simp only [Act.put, List.setIfInBounds_toArray, List.set_cons_zero, List.set_cons_succ]
  refine wpAnyH_take (i := 8) (oi := { dst := some 13, op := Go.Op.load 30 (Go.Operand.tmp 3), type := 30, pos := "file.go:64", after := #[], guard := none }) (v := ?v47) rfl (by kernel_rfl) (by kernel_rfl) (by kernel_rfl) (fun _ _ _ h => h) (Or.inl ⟨by kernel_rfl, ?h47⟩) (by assumption) ?r47
  case h47 => (intro w hSw; (try dsimp only at hSw); go_simp; try with_reducible rfl)
  try simp only [Act.put, List.setIfInBounds_toArray, List.set_cons_zero, List.set_cons_succ]
  refine wpAnyH_take (i := 9) (oi := { dst := some 14, op := Go.Op.move (Go.Operand.tmp 0), type := 3, pos := "file.go:64", after := #[], guard := none }) (v := ?v48) rfl (by kernel_rfl) (by kernel_rfl) (by kernel_rfl) (fun _ _ _ h => h) (Or.inl ⟨by kernel_rfl, ?h48⟩) (by assumption) ?r48
  case h48 => (intro w hSw; (try dsimp only at hSw); go_simp; try with_reducible rfl)
  try simp only [Act.put, List.setIfInBounds_toArray, List.set_cons_zero, List.set_cons_succ]
  refine wpAnyH_take (i := 10) (oi := { dst := some 15, op := Go.Op.slice 30 (Go.Operand.tmp 13) none (some (Go.Operand.tmp 14)) none, type := 30, pos := "file.go:64", after := #[{ on := 8, ground := Go.Ground.data }, { on := 9, ground := Go.Ground.data }], guard := none }) (v := ?v49) rfl (by kernel_rfl) (by kernel_rfl) (by kernel_rfl) (fun _ _ _ h => h) (Or.inl ⟨by kernel_rfl, ?h49⟩) (by assumption) ?r49
  case h49 => (intro w hSw; (try dsimp only at hSw); go_simp; try with_reducible rfl)
  try simp only [Act.put, List.setIfInBounds_toArray, List.set_cons_zero, List.set_cons_succ]
  refine wpAnyH_take (i := 12) (oi := { dst := some 17, op := Go.Op.nilCheck (Go.Operand.tmp 5), type := 0, pos := "file.go:64", after := #[{ on := 0, ground := Go.Ground.data }], guard := none }) (v := ?v50) rfl (by kernel_rfl) (by kernel_rfl) (by kernel_rfl) (fun _ _ _ h => h) (Or.inl ⟨by kernel_rfl, ?h50⟩) (by assumption) ?r50
  case h50 => (intro w hSw; (try dsimp only at hSw); go_simp; try with_reducible rfl)
  try simp only [Act.put, List.setIfInBounds_toArray, List.set_cons_zero, List.set_cons_succ]
  refine wpAnyH_take (i := 13) (oi := { dst := some 18, op := Go.Op.fieldAddr 47 (Go.Operand.tmp 17) 0, type := 0, pos := "file.go:64", after := #[{ on := 12, ground := Go.Ground.data }], guard := none }) (v := ?v51) rfl (by kernel_rfl) (by kernel_rfl) (by kernel_rfl) (fun _ _ _ h => h) (Or.inl ⟨by kernel_rfl, ?h51⟩) (by assumption) ?r51
  case h51 => (intro w hSw; (try dsimp only at hSw); go_simp; try with_reducible rfl)
  try simp only [Act.put, List.setIfInBounds_toArray, List.set_cons_zero, List.set_cons_succ]
  refine wpAnyH_ready (rs := [7]) (by kernel_rfl) (by simp) ?_
  refine AllReadyH.cons (o := { dst := some 12, op := Go.Op.load 30 (Go.Operand.tmp 11), type := 30, pos := "file.go:64", after := #[{ on := 6, ground := Go.Ground.data }], guard := none }) rfl (fun K hK => ?_) AllReadyH.nil
  go_simp
  refine hK.out _ _ hHeld (fun hHeld => ?_)
  clear hK K
  try simp only [Act.put, List.setIfInBounds_toArray, List.set_cons_zero, List.set_cons_succ]
  refine wpAnyH_ready (rs := [11]) (by kernel_rfl) (by simp) ?_
  refine AllReadyH.cons (o := { dst := some 16, op := Go.Op.call { callee := Go.Callee.builtin Go.Builtin.append, args := #[Go.Operand.tmp 12, Go.Operand.tmp 15], argTypes := #[30, 30] }, type := 30, pos := "file.go:64", after := #[{ on := 7, ground := Go.Ground.data }, { on := 10, ground := Go.Ground.data }], guard := none }) rfl (fun K hK => ?_) AllReadyH.nil
  refine wp_append_foot _ (.tmp 12) (.tmp 15) 30 rfl 5 i0 (.int .u8 0) 1 Try.underlying30 hi hz0 hz1 hz2 rfl .u8 _ (s.l 1) (own_belowE (X := []) hO'.out ((BelowE.refl _ _ _).drew) (by simp)) w.heap.size A (b.take p) see'.out p _ hlen'.out rfl rfl (by have := hbd'.out; unfold maxLen; omega) (by have := hbd'.out; omega) ?_
  intro v' w1 own1 grow1 blk1
  obtain ⟨a1, c1, rfl, -, -⟩ := sees_own own1
  have hg2 : BelowE F w.heap.size w w1 := hHeld.grown grow1 (Nat.le_refl _) (fun k hk _ => (hM'.out k hk).1)
  have hblk1 : Holds w1 d 47 #[v0, .slice av (s.l 1).length cv, .bool s.off, .bool s.armed, .int .i64 s.left] := (grow1.block d h1'.out.lt (fun e => (hM'.out d e.symm).2 rfl)).trans h1'.out
  have gN := hblk1.cell 1
  have gf := hblk1.free 1
  simp at gN
  refine hK.out _ _ (hg2) (fun hHeld => ?_)
  clear hK K
  try simp only [Act.put, List.setIfInBounds_toArray, List.set_cons_zero, List.set_cons_succ]
  refine wpAnyH_take (i := 14) (oi := { dst := some 19, op := Go.Op.indexAddr 45 (Go.Operand.tmp 18) (Go.Operand.tmp 6), type := 0, pos := "file.go:64", after := #[{ on := 13, ground := Go.Ground.data }, { on := 1, ground := Go.Ground.data }, { on := 0, ground := Go.Ground.phase }, { on := 1, ground := Go.Ground.phase }, { on := 2, ground := Go.Ground.phase }, { on := 3, ground := Go.Ground.phase }, { on := 4, ground := Go.Ground.phase }, { on := 5, ground := Go.Ground.phase }, { on := 6, ground := Go.Ground.phase }, { on := 7, ground := Go.Ground.phase }, { on := 8, ground := Go.Ground.phase }, { on := 9, ground := Go.Ground.phase }, { on := 10, ground := Go.Ground.phase }, { on := 11, ground := Go.Ground.phase }], guard := none }) (v := ?v52) rfl (by kernel_rfl) (by kernel_rfl) (by kernel_rfl) (fun _ _ _ h => h) (Or.inl ⟨by kernel_rfl, ?h52⟩) (by assumption) ?r52
  case h52 => (intro w hSw; (try dsimp only at hSw); go_simp; try with_reducible rfl)
  try simp only [Act.put, List.setIfInBounds_toArray, List.set_cons_zero, List.set_cons_succ]
  refine wpAnyH_ready (rs := [15]) (by kernel_rfl) (by simp) ?_
  refine AllReadyH.cons (o := { dst := none, op := Go.Op.store 30 (Go.Operand.tmp 19) (Go.Operand.tmp 16), type := 0, pos := "file.go:64", after := #[{ on := 14, ground := Go.Ground.data }, { on := 11, ground := Go.Ground.data }, { on := 11, ground := Go.Ground.chain }, { on := 0, ground := Go.Ground.phase }, { on := 1, ground := Go.Ground.phase }, { on := 2, ground := Go.Ground.phase }, { on := 3, ground := Go.Ground.phase }, { on := 4, ground := Go.Ground.phase }, { on := 5, ground := Go.Ground.phase }, { on := 6, ground := Go.Ground.phase }, { on := 7, ground := Go.Ground.phase }, { on := 8, ground := Go.Ground.phase }, { on := 9, ground := Go.Ground.phase }, { on := 10, ground := Go.Ground.phase }, { on := 11, ground := Go.Ground.phase }], guard := none }) rfl (fun K hK => ?_) AllReadyH.nil
  go_simp
  refine hK.out _ _ (hg2.setIn (p := ⟨d, 1, none⟩) h4'.out _) (fun hHeld => ?_)
  clear hK K
  try simp only [Act.put, List.setIfInBounds_toArray, List.set_cons_zero, List.set_cons_succ]
  refine wpAnyH_done (by kernel_rfl) ?_ _
  go_wp2
  go_end0
  obtain ⟨F', k1, k2⟩ := fin'.out w1 _ _ own1 ⟨grow1.os, grow1.tape, grow1.output, grow1.size, grow1.block⟩ blk1
  have e1 : (s.l 1 ++ b.take p).length = (s.l 1).length + p := by simp; omega
  rw [e1] at k1 k2
  exact ⟨rfl, F', k1, k2⟩
end Go.Proofs.Ytjhakmpinloioaa
