/- The scanner in memory. -/
import Derived.Test.YtplgfghffeijcaaLexSpec
import Derived.Test.YtplgfghffeijcaaRows
namespace Go.Proofs.Ytplgfghffeijcaa
open Go.RowKit
set_option linter.unusedVariables false
set_option linter.unusedSimpArgs false

theorem infoTok : (Try.prog.info? 36).map (fun i => (i.zero.map (·.cells.size), i.size, i.bytes)) = some (some 4, 4, 40) := by kernel_rfl
theorem infoU8 : (Try.prog.info? 5).map (fun i => (i.zero, i.size, i.bytes)) = some (some (.int .u8 0), 1, 1) := by kernel_rfl
theorem infoTokZ : ∃ i z, Try.prog.info? 36 = some i ∧ i.zero = some z ∧ i.size = 4 ∧ i.bytes = 40 ∧ z.cells.size = 4 := by
  have h := infoTok
  cases hi : Try.prog.info? 36 with
  | none => rw [hi] at h; simp at h
  | some i =>
    rw [hi] at h
    simp at h
    obtain ⟨⟨z, hz, h1⟩, h2, h3⟩ := h
    exact ⟨i, z, rfl, hz, h2, h3, h1⟩
/-- What a call makes of an object whose blocks are F: nothing else has turned; its blocks are F's, or new ones. -/
def Turns (F F' : List Nat) (w w' : World) : Prop := BelowE F w.heap.size w w' ∧ ∀ x ∈ F', x ∈ F ∨ w.heap.size ≤ x
theorem Turns.trans {F F' F'' : List Nat} {w w' w'' : World} (h : Turns F F' w w') (k : Turns F' F'' w' w'') : Turns F F'' w w'' := by
  refine ⟨h.1.trans ((k.1.mono h.1.size).less ?_), ?_⟩
  · intro x hx hl
    rcases h.2 x hx with h1 | h1
    · exact h1
    · omega
  · intro x hx
    rcases k.2 x hx with h1 | h1
    · exact h.2 x h1
    · right; have := h.1.size; omega
theorem Turns.refl (F : List Nat) (w : World) : Turns F F w w := ⟨BelowE.refl _ _ _, fun x hx => .inl hx⟩
theorem Turns.before {F F' : List Nat} {w w1 w' : World} (hb : Below w.heap.size w w1) (h : Turns F F' w1 w') : Turns F F' w w' :=
  ⟨(BelowE.of hb).trans (h.1.mono hb.size), fun x hx => (h.2 x hx).imp id fun h => Nat.le_trans hb.size h⟩
theorem Turns.none (F : List Nat) {w w' : World} (hb : Below w.heap.size w w') : Turns F F w w' := ⟨.of hb, fun x hx => .inl hx⟩
theorem BelowE.toBelow {X : List Nat} {B : Nat} {w w' : World} (h : BelowE X B w w') (hx : ∀ x ∈ X, B ≤ x) : Below B w w' :=
  (h.less (Y := []) (fun x hm hl => absurd (hx x hm) (by omega))).none
/-- For one who looks at the beginning of all. -/
theorem Turns.all {W w w' : World} {F F' : List Nat} (h : Turns F F' w w') (hb : Below W.heap.size W w) (hF : ∀ x ∈ F, W.heap.size ≤ x) : Below W.heap.size W w' ∧ ∀ x ∈ F', W.heap.size ≤ x :=
  ⟨hb.trans ((h.1.mono hb.size).toBelow hF), fun x hx => (h.2 x hx).elim (hF x) (fun h => Nat.le_trans hb.size h)⟩
/-- The scanner: block g, its two rows; F has all its blocks. -/
structure Sk (w : World) (g : Nat) (F : List Nat) (vl vt : Value) (s : Sg) : Prop where
  h : Holds w g 42 #[vl, .int .i64 s.t.k, .int .i64 s.t.ln, .int .i64 s.t.cl, .string s.t.tx, vt, .int .i64 s.line, .int .i64 s.col, .bool s.op]
  ol : w.ownsRow 0 36 4 vl s.L.length (tcells s.L)
  ot : w.ownsRow 0 5 1 vt s.T.length (nums .u8 s.T)
  g_in : g ∈ F
  l_in : ∀ b, vl.ownBlock = some b → b ∈ F ∧ b ≠ g
  t_in : ∀ b, vt.ownBlock = some b → b ∈ F ∧ b ≠ g
  apart : ∀ b, vl.ownBlock = some b → vt.ownBlock ≠ some b
  lt : ∀ x ∈ F, x < w.heap.size
def SkE (w : World) (g : Nat) (F : List Nat) (s : Sg) : Prop := ∃ vl vt, Sk w g F vl vt s
theorem Sk.belowE {w w' : World} {X F : List Nat} {g : Nat} {vl vt : Value} {s : Sg} (h : Sk w g F vl vt s) (hb : BelowE X w.heap.size w w') (hx : ∀ x ∈ F, x ∉ X) : Sk w' g F vl vt s :=
  ⟨h.h.belowE hb h.h.lt (hx g h.g_in), own_belowE h.ol hb fun k hk => hx k (h.l_in k hk).1, own_belowE h.ot hb fun k hk => hx k (h.t_in k hk).1, h.g_in, h.l_in, h.t_in, h.apart, fun x hx => Nat.lt_of_lt_of_le (h.lt x hx) hb.size⟩
theorem Sk.below {w w' : World} {F : List Nat} {g : Nat} {vl vt : Value} {s : Sg} (h : Sk w g F vl vt s) (hb : Below w.heap.size w w') : Sk w' g F vl vt s := h.belowE (.of hb) (X := []) (by simp)
theorem SkE.belowE {w w' : World} {X F : List Nat} {g : Nat} {s : Sg} (h : SkE w g F s) (hb : BelowE X w.heap.size w w') (hx : ∀ x ∈ F, x ∉ X) : SkE w' g F s := by
  obtain ⟨vl, vt, h⟩ := h; exact ⟨vl, vt, h.belowE hb hx⟩
theorem SkE.below {w w' : World} {F : List Nat} {g : Nat} {s : Sg} (h : SkE w g F s) (hb : Below w.heap.size w w') : SkE w' g F s := h.belowE (.of hb) (X := []) (by simp)
/-- Its block's cells turn, not its rows. -/
theorem Sk.put {w w' : World} {F : List Nat} {g : Nat} {vl vt : Value} {s s' : Sg} (h : Sk w g F vl vt s) (hb : BelowE [g] w.heap.size w w') (hL : s'.L = s.L) (hT : s'.T = s.T)
    (hh : Holds w' g 42 #[vl, .int .i64 s'.t.k, .int .i64 s'.t.ln, .int .i64 s'.t.cl, .string s'.t.tx, vt, .int .i64 s'.line, .int .i64 s'.col, .bool s'.op]) : Sk w' g F vl vt s' ∧ Turns F F w w' := by
  refine ⟨⟨hh, ?_, ?_, h.g_in, h.l_in, h.t_in, h.apart, fun x hx => Nat.lt_of_lt_of_le (h.lt x hx) hb.size⟩, hb.wider (by simp [h.g_in]), fun x hx => .inl hx⟩
  · rw [hL]; exact own_belowE h.ol hb fun k hk => by simpa using (h.l_in k hk).2
  · rw [hT]; exact own_belowE h.ot hb fun k hk => by simpa using (h.t_in k hk).2
/-- The text is another row (new, or none). -/
theorem Sk.text {w w1 w' : World} {F : List Nat} {g : Nat} {vl vt vt' : Value} {s s' : Sg} (h : Sk w g F vl vt s) (hg : w.grownBy w1 vt.ownBlock) (ho : w1.ownsRow 0 5 1 vt' s'.T.length (nums .u8 s'.T)) (hv : vt'.ownBlock = vt.ownBlock ∨ vt'.ownBlock = some w.heap.size)
    (hb : BelowE [g] w1.heap.size w1 w') (hL : s'.L = s.L)
    (hh : Holds w' g 42 #[vl, .int .i64 s'.t.k, .int .i64 s'.t.ln, .int .i64 s'.t.cl, .string s'.t.tx, vt', .int .i64 s'.line, .int .i64 s'.col, .bool s'.op]) : ∃ F', Sk w' g F' vl vt' s' ∧ Turns F F' w w' := by
  have hgl : g < w.heap.size := h.h.lt
  have b1 : BelowE F w.heap.size w w1 := (BelowE.refl _ _ _).grown hg (Nat.le_refl _) (fun k hk _ => (h.t_in k hk).1)
  have ol1 : w1.ownsRow 0 36 4 vl s.L.length (tcells s.L) := own_belowE h.ol ((BelowE.refl vt.ownBlock.toList _ _).grown hg (Nat.le_refl _) (fun k hk _ => by simp [hk])) (fun k hk hm => by simp at hm; exact h.apart k hk hm)
  have tn : ∀ b, vt'.ownBlock = some b → b ≠ g := fun b hb => by
    rcases hv with e | e
    · exact (h.t_in b (by rw [← e]; exact hb)).2
    · rw [hb] at e; injection e with e; omega
  refine ⟨vt'.ownBlock.toList ++ F, ⟨hh, ?_, own_belowE ho hb fun k hk => by simpa using tn k hk, by simp [h.g_in], fun b hb => ⟨by simp [(h.l_in b hb).1], (h.l_in b hb).2⟩, fun b hb => ⟨by simp [hb], tn b hb⟩, ?_, ?_⟩, ?_, ?_⟩
  · rw [hL]; exact own_belowE ol1 hb fun k hk => by simpa using (h.l_in k hk).2
  · intro b hb hc
    rcases hv with e | e
    · exact h.apart b hb (by rw [← e]; exact hc)
    · rw [hc] at e; injection e with e; have := h.lt b (h.l_in b hb).1; omega
  · intro x hx
    have hs := hb.size
    rcases List.mem_append.1 hx with hx | hx
    · simp at hx
      exact Nat.lt_of_lt_of_le (ho.lt x hx).2 hs
    · exact Nat.lt_of_lt_of_le (h.lt x hx) (Nat.le_trans hg.size hs)
  · exact b1.trans ((hb.mono hg.size).wider (by simp [h.g_in]))
  · intro x hx
    rcases List.mem_append.1 hx with hx | hx
    · simp at hx
      rcases hv with e | e
      · exact .inl (h.t_in x (by rw [← e]; exact hx)).1
      · rw [hx] at e; injection e with e; right; omega
    · exact .inl hx
/-- There is no text. -/
theorem Sk.bare {w w' : World} {F : List Nat} {g : Nat} {vl vt : Value} {s s' : Sg} (h : Sk w g F vl vt s) (hb : BelowE [g] w.heap.size w w') (hL : s'.L = s.L) (hT : s'.T = [])
    (hh : Holds w' g 42 #[vl, .int .i64 s'.t.k, .int .i64 s'.t.ln, .int .i64 s'.t.cl, .string s'.t.tx, .slice none 0 0, .int .i64 s'.line, .int .i64 s'.col, .bool s'.op]) : Sk w' g F vl (.slice none 0 0) s' ∧ Turns F F w w' := by
  refine ⟨⟨hh, ?_, by rw [hT]; exact own_nil _ _ _ _, h.g_in, h.l_in, fun b hb => by simp [Value.ownBlock] at hb, fun b _ hb => by simp [Value.ownBlock] at hb, fun x hx => Nat.lt_of_lt_of_le (h.lt x hx) hb.size⟩, hb.wider (by simp [h.g_in]), fun x hx => .inl hx⟩
  rw [hL]; exact own_belowE h.ol hb fun k hk => by simpa using (h.l_in k hk).2
/-- The tokens are another row. -/
theorem Sk.list {w w1 w' : World} {F : List Nat} {g : Nat} {vl vt vl' : Value} {s s' : Sg} (h : Sk w g F vl vt s) (hg : w.grownBy w1 vl.ownBlock) (ho : w1.ownsRow 0 36 4 vl' s'.L.length (tcells s'.L)) (hv : vl'.ownBlock = vl.ownBlock ∨ vl'.ownBlock = some w.heap.size)
    (hb : BelowE [g] w1.heap.size w1 w') (hT : s'.T = s.T)
    (hh : Holds w' g 42 #[vl', .int .i64 s'.t.k, .int .i64 s'.t.ln, .int .i64 s'.t.cl, .string s'.t.tx, vt, .int .i64 s'.line, .int .i64 s'.col, .bool s'.op]) : ∃ F', Sk w' g F' vl' vt s' ∧ Turns F F' w w' := by
  have hgl : g < w.heap.size := h.h.lt
  have b1 : BelowE F w.heap.size w w1 := (BelowE.refl _ _ _).grown hg (Nat.le_refl _) (fun k hk _ => (h.l_in k hk).1)
  have ot1 : w1.ownsRow 0 5 1 vt s.T.length (nums .u8 s.T) := own_belowE h.ot ((BelowE.refl vl.ownBlock.toList _ _).grown hg (Nat.le_refl _) (fun k hk _ => by simp [hk])) (fun k hk hm => by simp at hm; exact h.apart k hm hk)
  have tn : ∀ b, vl'.ownBlock = some b → b ≠ g := fun b hb => by
    rcases hv with e | e
    · exact (h.l_in b (by rw [← e]; exact hb)).2
    · rw [hb] at e; injection e with e; omega
  refine ⟨vl'.ownBlock.toList ++ F, ⟨hh, own_belowE ho hb fun k hk => by simpa using tn k hk, ?_, by simp [h.g_in], fun b hb => ⟨by simp [hb], tn b hb⟩, fun b hb => ⟨by simp [(h.t_in b hb).1], (h.t_in b hb).2⟩, ?_, ?_⟩, ?_, ?_⟩
  · rw [hT]; exact own_belowE ot1 hb fun k hk => by simpa using (h.t_in k hk).2
  · intro b hb hc
    rcases hv with e | e
    · exact h.apart b (by rw [← e]; exact hb) hc
    · rw [hb] at e; injection e with e; have := h.lt b (h.t_in b hc).1; omega
  · intro x hx
    have hs := hb.size
    rcases List.mem_append.1 hx with hx | hx
    · simp at hx
      exact Nat.lt_of_lt_of_le (ho.lt x hx).2 hs
    · exact Nat.lt_of_lt_of_le (h.lt x hx) (Nat.le_trans hg.size hs)
  · exact b1.trans ((hb.mono hg.size).wider (by simp [h.g_in]))
  · intro x hx
    rcases List.mem_append.1 hx with hx | hx
    · simp at hx
      rcases hv with e | e
      · exact .inl (h.l_in x (by rw [← e]; exact hx)).1
      · rw [hx] at e; injection e with e; right; omega
    · exact .inl hx
end Go.Proofs.Ytplgfghffeijcaa
