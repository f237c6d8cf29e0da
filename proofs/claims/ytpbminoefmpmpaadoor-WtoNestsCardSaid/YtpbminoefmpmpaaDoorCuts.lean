/- Slices of cells, cut; appends that grow, as one operation. -/
import Derived.Test.YtpbminoefmpmpaaDoorCells
import Derived.Test.YtpbminoefmpmpaaDoorKit2
import Derived.ArgAppend
namespace Go.Proofs.YtpbminoefmpmpaaDoor
open Go.RowKit
set_option linter.unusedVariables false

theorem SeesC.cut {B : Nat} {w : World} {a : Option Addr} {cs : List Value} (h : SeesC B w a cs) (size lo hi cap : Nat) (hl : hi * size ≤ cs.length) (hlo : lo ≤ hi) (hc : hi ≤ cap) (hz : 0 < size) :
    ∃ a', sliced a lo hi cap size = .slice a' (hi - lo) (cap - lo) ∧ SeesC B w a' ((cs.take (hi * size)).drop (lo * size)) ∧ (a = none → a' = none) := by
  unfold sliced
  refine ⟨_, rfl, ?_, by rintro rfl; split <;> rfl⟩
  by_cases h0 : lo = hi
  · left; subst h0; exact List.drop_of_length_le (by simp; omega)
  have hmul : lo * size < hi * size := Nat.mul_lt_mul_of_pos_right (by omega) hz
  rcases h with rfl | ⟨b, off, rfl, hB, hcell⟩
  · simp at hl; omega
  · right
    have h1 : ¬ (cap = lo) := by omega
    have key : ∀ i u, ((cs.take (hi * size)).drop (lo * size))[i]? = some u → cs[lo * size + i]? = some u := by
      intro i u hu
      rw [List.getElem?_drop] at hu
      rw [List.getElem?_take] at hu
      split at hu
      · exact hu
      · cases hu
    refine ⟨b, off + lo * size, ?_, hB, fun i u hi' => ?_⟩
    · simp only [h1, if_false]
      simp only [Option.map_some, add_at]
    · rw [Nat.add_assoc]
      exact hcell _ _ (key i u hi')
/-- a[lo:], a[:hi], a[lo:hi], a[:hi:m] of things that have so many cells each. -/
theorem cut_l {P : Program} {t : TypeId} {size : Nat} (ht : P.underlying t = some (.slice (P.elem t))) (hs : ∀ W, (sizeOf (P.elem t)).run P W = .ok size W) (a : Option Addr) (n cap lo : Nat) {a' : Option Addr} {m c : Nat} (h : sliced a lo n cap size = .slice a' m c) (hlo : lo ≤ n) (W : World) :
    (Instr.slice t (.slice a n cap) (some (.int .i64 (lo : Int))) none none).run P W = .ok (.slice a' m c) W := by
  rw [← h, run_slice_l (P := P) (w := W) t a n cap ht .i64 lo (by omega) (by omega), hs]
  simp [Result.andThen]
theorem cut_h {P : Program} {t : TypeId} {size : Nat} (ht : P.underlying t = some (.slice (P.elem t))) (hs : ∀ W, (sizeOf (P.elem t)).run P W = .ok size W) (a : Option Addr) (n cap hi : Nat) {a' : Option Addr} {m c : Nat} (h : sliced a 0 hi cap size = .slice a' m c) (hhi : hi ≤ cap) (W : World) :
    (Instr.slice t (.slice a n cap) none (some (.int .i64 (hi : Int))) none).run P W = .ok (.slice a' m c) W := by
  rw [← h, run_slice_h (P := P) (w := W) t a n cap ht .i64 hi (by omega) (by omega), hs]
  simp [Result.andThen]
theorem cut_lh {P : Program} {t : TypeId} {size : Nat} (ht : P.underlying t = some (.slice (P.elem t))) (hs : ∀ W, (sizeOf (P.elem t)).run P W = .ok size W) (a : Option Addr) (n cap lo hi : Nat) {a' : Option Addr} {m c : Nat} (h : sliced a lo hi cap size = .slice a' m c) (hlo : lo ≤ hi) (hhi : hi ≤ cap) (W : World) :
    (Instr.slice t (.slice a n cap) (some (.int .i64 (lo : Int))) (some (.int .i64 (hi : Int))) none).run P W = .ok (.slice a' m c) W := by
  rw [← h, run_slice_lh (P := P) (w := W) t a n cap ht .i64 .i64 lo hi (by omega) (by omega) (by omega), hs]
  simp [Result.andThen]
theorem cut_hm {P : Program} {t : TypeId} {size : Nat} (ht : P.underlying t = some (.slice (P.elem t))) (hs : ∀ W, (sizeOf (P.elem t)).run P W = .ok size W) (a : Option Addr) (n cap hi mx : Nat) {a' : Option Addr} {m c : Nat} (h : sliced a 0 hi mx size = .slice a' m c) (hhi : hi ≤ mx) (hm : mx ≤ cap) (W : World) :
    (Instr.slice t (.slice a n cap) none (some (.int .i64 (hi : Int))) (some (.int .i64 (mx : Int)))).run P W = .ok (.slice a' m c) W := by
  rw [← h, run_slice_hm (P := P) (w := W) t a n cap ht .i64 .i64 hi mx (by omega) (by omega) (by omega), hs]
  simp [Result.andThen]
/-- An append to what is full, at one operation (in a region that draws its order): a row of the call's own. -/
theorem wp_append_full {P : Program} (w : World) {o : Oper} {a : Act} {K : Act → World → Prop} {Q : Exit → Act → World → Prop}
    (s x : Operand) (t : TypeId) (hop : o.op = Op.call { callee := Callee.builtin Builtin.append, args := #[s, x], argTypes := #[t, t] })
    (e : TypeId) (i : TypeInfo) (z : Value) (size bytes : Nat) (h1 : P.underlying t = some (.slice e)) (h2 : P.info? e = some i) (h3 : i.zero = some z) (h4 : i.size = size) (h5 : i.bytes = bytes) (h6 : z.cells.size = size) (h7 : 0 < size)
    (ao : Option Addr) (n cap : Nat) (olds : List Value) (hs : a.eval s = .slice ao n cap) (hnone : ao = none → n = 0 ∧ cap = 0) (hlo : olds.length = n * size) (B : Nat) (holds : SeesC B w ao olds)
    (ad : Addr) (m c : Nat) (news : List Value) (hx : a.eval x = .slice (some ad) m c) (hn : news.length = m * size) (hc : SeesC B w (some ad) news) (h1c : ∀ u ∈ news, u.oneCell' = true)
    (hfull : cap < n + m) (b1 : n + m ≤ maxLen) (b2 : (n + m) * bytes ≤ 140737488355328)
    (hK : ∀ v' w', w'.ownsRow w.heap.size e size v' (n + m) (olds ++ news) → w.grownBy w' none → K (a.put o.dst v') w') : o.wp P a w K Q := by
  have look : ∀ {b : Addr} {cs : List Value}, SeesC B w (some b) cs → ∀ j u, cs[j]? = some u → w.cell? (b.add j) = some u := by
    intro b cs h j u hu
    rcases h with rfl | ⟨g, off, hb, _, hcell⟩
    · simp at hu
    · injection hb with hb; subst hb; rw [add_at]; exact hcell j u hu
  cases ao with
  | some b =>
    obtain ⟨v', w', hrun, r1, r2⟩ := run_append_arg_grows (P := P) w t o.type e i z size bytes h1 h2 h3 h4 h5 h6 h7 b n cap olds hlo (look holds) ad m c news hn (look hc) hfull b1 b2
    unfold Oper.wp
    simp [execOp, hop, resolve, invoke, builtin, hs, hx, hrun, Result.andThen]
    exact hK v' w' r1 r2
  | none =>
    obtain ⟨rfl, rfl⟩ := hnone rfl
    obtain rfl : olds = [] := List.eq_nil_of_length_eq_zero (by simpa using hlo)
    obtain ⟨v', w', hrun, r1, r2, _⟩ := run_append_own (P := P) w w.heap.size t o.type e i z size bytes h1 h2 h3 h4 h5 h6 h7 (.slice none 0 0) 0 [] (World.ownsRow_nil w _ e size) ad m c news hn (look hc) h1c b1 b2 (Nat.le_refl _)
    unfold Oper.wp
    simp [execOp, hop, resolve, invoke, builtin, hs, hx, hrun, Result.andThen]
    exact hK v' w' r1 r2
theorem wpList_append_full {P : Program} (w : World) {ops : Array Oper} {rest : List Oper} {o : Oper} {a : Act} {Q : Exit → Act → World → Prop}
    (hg : o.guard = none) (s x : Operand) (t : TypeId) (hop : o.op = Op.call { callee := Callee.builtin Builtin.append, args := #[s, x], argTypes := #[t, t] })
    (e : TypeId) (i : TypeInfo) (z : Value) (size bytes : Nat) (h1 : P.underlying t = some (.slice e)) (h2 : P.info? e = some i) (h3 : i.zero = some z) (h4 : i.size = size) (h5 : i.bytes = bytes) (h6 : z.cells.size = size) (h7 : 0 < size)
    (ao : Option Addr) (n cap : Nat) (olds : List Value) (hs : a.eval s = .slice ao n cap) (hnone : ao = none → n = 0 ∧ cap = 0) (hlo : olds.length = n * size) (B : Nat) (holds : SeesC B w ao olds)
    (ad : Addr) (m c : Nat) (news : List Value) (hx : a.eval x = .slice (some ad) m c) (hn : news.length = m * size) (hc : SeesC B w (some ad) news) (h1c : ∀ u ∈ news, u.oneCell' = true)
    (hfull : cap < n + m) (b1 : n + m ≤ maxLen) (b2 : (n + m) * bytes ≤ 140737488355328)
    (hK : ∀ v' w', w'.ownsRow w.heap.size e size v' (n + m) (olds ++ news) → w.grownBy w' none → wpList P ops Q rest (a.put o.dst v') w') : wpList P ops Q (o :: rest) a w :=
  wpList_plain hg fun K hK' => wp_append_full w s x t hop e i z size bytes h1 h2 h3 h4 h5 h6 h7 ao n cap olds hs hnone hlo B holds ad m c news hx hn hc h1c hfull b1 b2 fun v' w' r1 r2 => hK' _ _ (hK v' w' r1 r2)
/-- An append of cells to a row of blocks from base on, what is appended may be nil: at one operation. -/
theorem wp_append_cellsB {P : Program} (w : World) {o : Oper} {a : Act} {K : Act → World → Prop} {Q : Exit → Act → World → Prop}
    (s x : Operand) (t : TypeId) (hop : o.op = Op.call { callee := Callee.builtin Builtin.append, args := #[s, x], argTypes := #[t, t] })
    (base : Nat) (e : TypeId) (i : TypeInfo) (z : Value) (size bytes : Nat) (ht : P.underlying t = some (.slice e)) (hi : P.info? e = some i) (hz : i.zero = some z)
    (hsize : i.size = size) (hby : i.bytes = bytes) (hzs : z.cells.size = size) (hsz : 0 < size)
    (v : Value) (n : Nat) (xs : List Value) (hown : w.ownsRow base e size v n xs) (hb : base ≤ w.heap.size) (B : Nat) (A : Option Addr) (m c : Nat) (news : List Value) (hl : news.length = m * size) (hs : SeesC B w A news) (h1 : ∀ u ∈ news, u.oneCell' = true)
    (hsv : a.eval s = v) (hx : a.eval x = .slice A m c) (hn : n + m ≤ maxLen) (hby2 : (n + m) * bytes ≤ 140737488355328)
    (hK : ∀ v' w', w'.ownsRow base e size v' (n + m) (xs ++ news) → w.grownBy w' v.ownBlock → K (a.put o.dst v') w') : o.wp P a w K Q := by
  obtain ⟨v', w', hrun, g1, g2, g3⟩ := run_append_cellsB (P := P) w base t o.type e i z size bytes ht hi hz hsize hby hzs hsz v n xs hown B A m c news hl hs h1 hn hby2 hb
  unfold Oper.wp
  simp [execOp, hop, resolve, invoke, builtin, hsv, hx, hrun, Result.andThen]
  exact hK v' w' g1 g2
/-- The same in a row of operations, some of which have guards. -/
theorem wpList_append_cells_g {P : Program} (w : World) {ops : Array Oper} {rest : List Oper} {o : Oper} {a : Act} {Q : Exit → Act → World → Prop}
    (hw : Region.wanted o (yielded ops a.tmps) = true) (s x : Operand) (t : TypeId) (hop : o.op = Op.call { callee := Callee.builtin Builtin.append, args := #[s, x], argTypes := #[t, t] })
    (w0 : World) (e : TypeId) (i : TypeInfo) (z : Value) (size bytes : Nat) (ht : P.underlying t = some (.slice e)) (hi : P.info? e = some i) (hz : i.zero = some z)
    (hsize : i.size = size) (hby : i.bytes = bytes) (hzs : z.cells.size = size) (hsz : 0 < size)
    (v : Value) (n : Nat) (xs : List Value) (hown : w.ownsRow w0.heap.size e size v n xs) (hb : Below w0.heap.size w0 w) (B : Nat) (A : Option Addr) (m c : Nat) (news : List Value) (hl : news.length = m * size) (hs : SeesC B w A news) (h1 : ∀ u ∈ news, u.oneCell' = true)
    (hsv : a.eval s = v) (hx : a.eval x = .slice A m c) (hn : n + m ≤ maxLen) (hby2 : (n + m) * bytes ≤ 140737488355328)
    (hK : ∀ v' w', w'.ownsRow w0.heap.size e size v' (n + m) (xs ++ news) → Below w0.heap.size w0 w' → wpList P ops Q rest (a.put o.dst v') w') :
    wpList P ops Q (o :: rest) a w :=
  wpList_held hw fun K hK' => wp_append_cellsB w s x t hop w0.heap.size e i z size bytes ht hi hz hsize hby hzs hsz v n xs hown hb.size B A m c news hl hs h1 hsv hx hn hby2 fun v' w' g1 g2 => hK' _ _ (hK v' w' g1 (hb.grown g2 hb.size fun k hk => (hown.lt k hk).1))
end Go.Proofs.YtpbminoefmpmpaaDoor
