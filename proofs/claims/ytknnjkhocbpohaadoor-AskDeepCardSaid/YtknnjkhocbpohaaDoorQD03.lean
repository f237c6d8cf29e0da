/-
  Words and walks under the law's proof.
-/
import Derived.Deep.DeepCutAuto
import Derived.Test.YtknnjkhocbpohaaDoorQD02
namespace Go.Proofs.YtknnjkhocbpohaaDoor
open Go.RowKit
set_option linter.unusedVariables false
set_option linter.unusedSimpArgs false
structure TB (w : World) (g : Nat) (a : Option Addr) (n c : Nat) (L : List TmD) (v : Value) (m : Nat) (O : List TmD) : Prop where
  blk : Holds w g 52 #[.slice a n c, v]
  len : n = L.length
  cap : n ≤ c
  max : c ≤ maxLen
  sees : SeesC g w a (L.flatMap tmC)
  own : w.ownsRow (g + 1) 38 5 v m (tmcells O)
theorem TB.olen {w : World} {g : Nat} {a : Option Addr} {n c : Nat} {L : List TmD} {v : Value} {m : Nat} {O : List TmD} (h : TB w g a n c L v m O) : m = O.length := by
  have := h.own.1
  rw [tmcells_len] at this
  omega
def TurnE (w : World) (g : Nat) (R O : List TmD) (e : Ending) (w' : World) : Prop := e = .returned (.tuple #[]) ∧ Below g w w' ∧ ∃ a c v m, TB w' g a R.length c R v m O
theorem seesG_first {g : Nat} {w : World} {a : Option Addr} {t : TmD} {R : List TmD} (h : SeesC g w a ((t :: R).flatMap tmC)) : ∃ b off, a = some ⟨b, off, none⟩ ∧ b < g ∧ w.cell? ⟨b, off, none⟩ = some (.int .i64 t.op) ∧ w.cell? ⟨b, off + 1, none⟩ = some (.int .i64 t.fld) ∧ w.cell? ⟨b, off + 2, none⟩ = some (.int .i64 t.rel) ∧ w.cell? ⟨b, off + 3, none⟩ = some (.int .i64 t.num) ∧ w.cell? ⟨b, off + 4, none⟩ = some (.string t.txt) := by
  rcases h with e | ⟨b, off, e, hb, hc⟩
  · simp [tmC] at e
  · exact ⟨b, off, e, hb, hc 0 _ rfl, hc 1 _ rfl, hc 2 _ rfl, hc 3 _ rfl, hc 4 _ rfl⟩
theorem seesG_rest {g : Nat} {w : World} {a : Option Addr} {n c : Nat} {t : TmD} {R : List TmD} (h : SeesC g w a ((t :: R).flatMap tmC)) (hn : n = R.length + 1) (hc : n ≤ c) :
    ∃ a', (∀ W, (Instr.slice 22 (.slice a n c) (some (.int .i64 1)) none none).run Tryd.prog W = .ok (.slice a' (n - 1) (c - 1)) W) ∧ SeesC g w a' (R.flatMap tmC) := by
  obtain ⟨a', e, hs, _⟩ := h.cut 5 1 n c (by rw [flat_len tmC_len]; simp; omega) (by omega) hc (by omega)
  rw [flat_take tmC_len, flat_drop tmC_len, List.take_of_length_le (by simp; omega)] at hs
  exact ⟨a', ccut_l under_tm size_tm a n c 1 e (by omega), hs⟩
theorem below_grown {B : Nat} {a w w' : World} {row : Option Nat} (h : Below B a w) (hg : w.grownBy w' row) (hB : B ≤ w.heap.size) (hr : ∀ k, row = some k → B ≤ k) : Below B a w' :=
  ((BelowE.of (X := []) h).grown hg hB (fun k hk hl => absurd (hr k hk) (by omega))).none
theorem below_set {B : Nat} {a w : World} (h : Below B a w) {p : Addr} (hp : B ≤ p.block) (u : Value) : Below B a (w.setCell p u) := ((BelowE.of (X := []) h).setNew hp u).none
theorem below_allocB {B : Nat} {a w : World} (h : Below B a w) (hB : B ≤ w.heap.size) (o : Obj) : Below B a (w.alloc o) := ((BelowE.of (X := []) h).alloc hB o).none
theorem holds_grown {w w' : World} {row : Option Nat} {g : Nat} {ty : TypeId} {cs : Array Value} (h : Holds w g ty cs) (hg : w.grownBy w' row) (hr : some g ≠ row) : Holds w' g ty cs := (hg.block g h.lt hr).trans h
theorem tb_alloc {w : World} {g : Nat} {a : Option Addr} {n c : Nat} {L : List TmD} {v : Value} {m : Nat} {O : List TmD} (h : TB w g a n c L v m O) (o : Obj) : TB (w.alloc o) g a n c L v m O :=
  ⟨h.blk.alloc _, h.len, h.cap, h.max, h.sees.below (below_allocB (Below.refl _ _) (Nat.le_of_lt h.blk.lt) o), own_below h.own ((Below.refl _ _).alloc (Nat.le_refl _) o)⟩
theorem tb_drew {w : World} {g : Nat} {a : Option Addr} {n c : Nat} {L : List TmD} {v : Value} {m : Nat} {O : List TmD} (h : TB w g a n c L v m O) : TB w.drew g a n c L v m O :=
  ⟨h.blk, h.len, h.cap, h.max, h.sees, own_belowE (X := []) h.own ((BelowE.refl _ _ _).drew) (by simp)⟩
theorem tb_not {w : World} {g : Nat} {a : Option Addr} {n c : Nat} {L : List TmD} {v : Value} {m : Nat} {O : List TmD} (h : TB w g a n c L v m O) : some g ≠ v.ownBlock := fun e => by have := (h.own.lt g e.symm).1; omega
theorem tb_grown {w W : World} {g : Nat} {a : Option Addr} {n c : Nat} {L : List TmD} {v : Value} {m : Nat} {O : List TmD} (h : TB w g a n c L v m O) (hg : w.grownBy W v.ownBlock) : Below g w W :=
  below_grown (Below.refl _ _) hg (Nat.le_of_lt h.blk.lt) (fun k hk => by have := (h.own.lt k hk).1; omega)
theorem tb_told {w W : World} {g : Nat} {a : Option Addr} {n c : Nat} {L : List TmD} {v v' : Value} {m : Nat} {O : List TmD} {t : TmD} (h : TB w g a n c L v m O) (ho : W.ownsRow (g + 1) 38 5 v' (m + 1) (tmcells O ++ tmC t)) (hg : w.grownBy W v.ownBlock) :
    TB (W.setCell ⟨g, 1, none⟩ v') g a n c L v' (m + 1) (O ++ [t]) := by
  have hb := tb_grown h hg
  refine ⟨(holds_grown h.blk hg (tb_not h)).set 1 v', h.len, h.cap, h.max, (h.sees.below hb).below (below_set (Below.refl _ _) (p := ⟨g, 1, none⟩) (Nat.le_refl _) _), ?_⟩
  rw [tmcells_snoc]
  exact own_belowE ho ((BelowE.refl [g] _ _).setIn (p := ⟨g, 1, none⟩) (by simp) _) (fun k hk => by have := (ho.lt k hk).1; simp; omega)
theorem tb_told_below {w0 w W : World} {g : Nat} {a : Option Addr} {n c : Nat} {L : List TmD} {v v' : Value} {m : Nat} {O : List TmD} (h : TB w g a n c L v m O) (hb : Below g w0 w) (hg : w.grownBy W v.ownBlock) : Below g w0 (W.setCell ⟨g, 1, none⟩ v') :=
  below_set (hb.trans (tb_grown h hg)) (p := ⟨g, 1, none⟩) (Nat.le_refl _) _
theorem wpList_append_base {P : Program} (w : World) {ops : Array Oper} {rest : List Oper} {o : Oper} {a : Act} {Q : Exit → Act → World → Prop}
    (hg : o.guard = none) (s x : Operand) (t : TypeId) (hop : o.op = Op.call { callee := Callee.builtin Builtin.append, args := #[s, x], argTypes := #[t, t] })
    (base : Nat) (e : TypeId) (i : TypeInfo) (z : Value) (size bytes : Nat) (ht : P.underlying t = some (.slice e)) (hi : P.info? e = some i) (hz : i.zero = some z)
    (hsize : i.size = size) (hby : i.bytes = bytes) (hzs : z.cells.size = size) (hsz : 0 < size)
    (v : Value) (n : Nat) (xs : List Value) (hown : w.ownsRow base e size v n xs) (hb : base ≤ w.heap.size) (B : Nat) (A : Option Addr) (m c : Nat) (news : List Value) (hl : news.length = m * size) (hs : SeesC B w A news) (h1 : ∀ u ∈ news, u.oneCell' = true)
    (hsv : a.eval s = v) (hx : a.eval x = .slice A m c) (hn : n + m ≤ maxLen) (hby2 : (n + m) * bytes ≤ 140737488355328)
    (hK : ∀ v' w', w'.ownsRow base e size v' (n + m) (xs ++ news) → w.grownBy w' v.ownBlock → wpList P ops Q rest (a.put o.dst v') w') : wpList P ops Q (o :: rest) a w :=
  wpList_plain hg fun K hK' => wp_append_cellsB w s x t hop base e i z size bytes ht hi hz hsize hby hzs hsz v n xs hown hb B A m c news hl hs h1 hsv hx hn hby2 fun v' w' r1 r2 => hK' _ _ (hK v' w' r1 r2)
theorem turn_taken {w : World} {g : Nat} {a : Option Addr} {n c : Nat} {t : TmD} {R : List TmD} {v : Value} {m : Nat} {O : List TmD} (h : TB w g a n c (t :: R) v m O) {a' : Option Addr} (hs : SeesC g w a' (R.flatMap tmC)) (cs : Array Value) (fr : Nat × Nat := (0, 0)) :
    TB ((w.setCell ⟨g, 0, none⟩ (.slice a' (n - 1) (c - 1))).alloc (.cells cs 38 fr)) g a' (n - 1) (c - 1) R v m O := by
  have hl := h.len
  have hc := h.cap
  have hm := h.max
  simp only [List.length_cons] at hl
  have hb0 := below_set (Below.refl g w) (p := ⟨g, 0, none⟩) (Nat.le_refl _) (.slice a' (n - 1) (c - 1))
  have hgl := h.blk.lt
  have hset := h.blk.set 0 (.slice a' (n - 1) (c - 1))
  refine ⟨hset.alloc _, by omega, by omega, by omega, hs.below (below_allocB hb0 (by simp; omega) _), ?_⟩
  have e1 : BelowE [g] w.heap.size w ((w.setCell ⟨g, 0, none⟩ (.slice a' (n - 1) (c - 1))).alloc (.cells cs 38 fr)) := ((BelowE.refl _ _ _).setIn (p := ⟨g, 0, none⟩) (by simp) _).alloc (by simp) _
  exact own_belowE h.own e1 (fun k hk => by have := (h.own.lt k hk).1; simp; omega)
set_option maxRecDepth 100000 in
set_option maxHeartbeats 8000000 in
theorem turn_neg (w : World) (g : Nat) (a : Option Addr) (n c : Nat) (t0 : TmD) (R : List TmD) (v : Value) (m : Nat) (O : List TmD) (b0 : Bool) (P O2 : List TmD) (h : TB w g a n c (t0 :: R) v m O) (h3 : t0.op = 3)
    (ih : ∀ W a' n' c' v' m', TB W g a' n' c' R v' m' O → Calls Tryd.prog 28 #[.pointer (some ⟨g, 0, none⟩), .bool (!b0)] W (TurnE W g P O2)) :
    Calls Tryd.prog 28 #[.pointer (some ⟨g, 0, none⟩), .bool b0] w (TurnE w g P O2) := by
  obtain ⟨b, off, rfl, hbg, x0, x1, x2, x3, x4⟩ := seesG_first h.sees
  obtain ⟨a', hcut, hse⟩ := seesG_rest h.sees h.len h.cap
  obtain ⟨a0, c0, rfl, -, -, -⟩ := seesC_own h.own
  have hlen := h.len
  simp only [List.length_cons] at hlen
  have hn0 : (0 : Int) < (n : Int) := by omega
  have k0 := h.blk.cell 0
  have k1 := h.blk.cell 1
  have f0 := h.blk.free 0
  have f1 := h.blk.free 1
  simp at k0 k1
  have hgl := h.blk.lt
  have hbl : b < w.heap.size := by omega
  have hbgn : b ≠ g := by omega
  have TT1 := Lib.hid (fun cs => turn_taken h hse cs)
  have B1 := Lib.hid (fun cs => below_allocB (below_set (Below.refl g w) (p := ⟨g, 0, none⟩) (Nat.le_refl _) (.slice a' (n - 1) (c - 1))) (by simp; omega) (.cells cs 38))
  have hvo : Hid (∀ k, (Value.slice a0 m c0).ownBlock = some k → k < w.heap.size) := Lib.hid (fun k hk => (h.own.lt k hk).2)
  have hlen' := Lib.hid hlen
  clear h hse hlen
  have ih' := Lib.hid ih
  have h3' := Lib.hid h3
  clear ih h3
  go_enter Tryd.func28, Tryd.ntmps28
  go_upto_region 2 with fail
  obtain ⟨V1, hV1⟩ : ∃ V1, V1 = (w.setCell ⟨g, 0, none⟩ (.slice a' (n - 1) (c - 1))).alloc (.cells #[.int .i64 t0.op, .int .i64 t0.fld, .int .i64 t0.rel, .int .i64 t0.num, .string t0.txt] 38) := ⟨_, rfl⟩
  have TV : Hid (TB V1 g a' (n - 1) (c - 1) R (.slice a0 m c0) m O) := Lib.hid (by rw [hV1]; exact TT1.out _)
  have BV : Hid (Below g w V1) := Lib.hid (by rw [hV1]; exact B1.out _)
  obtain ⟨gt, hgt⟩ : ∃ gt, gt = w.heap.size := ⟨_, rfl⟩
  have HT : Hid (Holds V1 gt 38 #[.int .i64 t0.op, .int .i64 t0.fld, .int .i64 t0.rel, .int .i64 t0.num, .string t0.txt]) := Lib.hid (by
    rw [hV1, hgt]
    have := Holds.new (w.setCell ⟨g, 0, none⟩ (.slice a' (n - 1) (c - 1))) 38 #[.int .i64 t0.op, .int .i64 t0.fld, .int .i64 t0.rel, .int .i64 t0.num, .string t0.txt]
    rwa [show (w.setCell ⟨g, 0, none⟩ (.slice a' (n - 1) (c - 1))).heap.size = w.heap.size by simp] at this)
  have hvg : Hid (some gt ≠ (Value.slice a0 m c0).ownBlock) := Lib.hid (fun e => by have := hvo.out gt e.symm; omega)
  have hgg : g ≠ gt := by omega
  rw [← hV1, ← hgt]
  clear hV1 hgt TT1 B1 hvo k0 k1 f0 f1 x0 x1 x2 x3 x4 hcut hgl hbl
  have t0c := HT.out.cell 0
  simp at t0c
  rw [h3'.out] at t0c
  have q := Lib.hid (ih'.out V1 _ _ _ _ _ TV.out)
  clear ih' TV HT
  go_wp2_with fail
  refine q.out.mono ?_
  rintro e u1 ⟨rfl, b1, a2, c2, v2, m2, hT⟩
  have hf := Lib.hid (And.intro (BV.out.trans b1) hT)
  clear b1 hT q BV
  go_wp2
  go_end0
  exact ⟨rfl, hf.out.1, _, _, _, _, hf.out.2⟩
set_option maxRecDepth 100000 in
set_option maxHeartbeats 8000000 in
theorem turn_leaf (w : World) (g : Nat) (a : Option Addr) (n c : Nat) (t0 : TmD) (R : List TmD) (v : Value) (m : Nat) (O : List TmD) (h : TB w g a n c (t0 :: R) v m O) (h3 : t0.op = 1 ∨ t0.op = 2) (hm : m ≤ 100000) :
    Calls Tryd.prog 28 #[.pointer (some ⟨g, 0, none⟩), .bool false] w (TurnE w g R (O ++ [t0])) := by
  obtain ⟨b, off, rfl, hbg, x0, x1, x2, x3, x4⟩ := seesG_first h.sees
  obtain ⟨a', hcut, hse⟩ := seesG_rest h.sees h.len h.cap
  obtain ⟨a0, c0, rfl, -, -, -⟩ := seesC_own h.own
  have hlen := h.len
  simp only [List.length_cons] at hlen
  have hn0 : (0 : Int) < (n : Int) := by omega
  have k0 := h.blk.cell 0
  have k1 := h.blk.cell 1
  have f0 := h.blk.free 0
  have f1 := h.blk.free 1
  simp at k0 k1
  have hgl := h.blk.lt
  have hbl : b < w.heap.size := by omega
  have hbgn : b ≠ g := by omega
  have TT1 := Lib.hid (fun cs => turn_taken h hse cs)
  have B1 := Lib.hid (fun cs => below_allocB (below_set (Below.refl g w) (p := ⟨g, 0, none⟩) (Nat.le_refl _) (.slice a' (n - 1) (c - 1))) (by simp; omega) (.cells cs 38))
  have hvo : Hid (∀ k, (Value.slice a0 m c0).ownBlock = some k → k < w.heap.size) := Lib.hid (fun k hk => (h.own.lt k hk).2)
  have hlen' := Lib.hid hlen
  clear h hse hlen
  have e3 : (t0.op == 3) = false := by rcases h3 with e | e <;> rw [e] <;> decide
  have e4 : (t0.op == 4) = false := by rcases h3 with e | e <;> rw [e] <;> decide
  have e5 : (t0.op == 5) = false := by rcases h3 with e | e <;> rw [e] <;> decide
  clear h3
  go_enter Tryd.func28, Tryd.ntmps28
  go_upto_region 2 with fail
  obtain ⟨V1, hV1⟩ : ∃ V1, V1 = (w.setCell ⟨g, 0, none⟩ (.slice a' (n - 1) (c - 1))).alloc (.cells #[.int .i64 t0.op, .int .i64 t0.fld, .int .i64 t0.rel, .int .i64 t0.num, .string t0.txt] 38) := ⟨_, rfl⟩
  have TV : Hid (TB V1 g a' (n - 1) (c - 1) R (.slice a0 m c0) m O) := Lib.hid (by rw [hV1]; exact TT1.out _)
  have BV : Hid (Below g w V1) := Lib.hid (by rw [hV1]; exact B1.out _)
  obtain ⟨gt, hgt⟩ : ∃ gt, gt = w.heap.size := ⟨_, rfl⟩
  have HT : Hid (Holds V1 gt 38 #[.int .i64 t0.op, .int .i64 t0.fld, .int .i64 t0.rel, .int .i64 t0.num, .string t0.txt]) := Lib.hid (by
    rw [hV1, hgt]
    have := Holds.new (w.setCell ⟨g, 0, none⟩ (.slice a' (n - 1) (c - 1))) 38 #[.int .i64 t0.op, .int .i64 t0.fld, .int .i64 t0.rel, .int .i64 t0.num, .string t0.txt]
    rwa [show (w.setCell ⟨g, 0, none⟩ (.slice a' (n - 1) (c - 1))).heap.size = w.heap.size by simp] at this)
  have hvg : Hid (some gt ≠ (Value.slice a0 m c0).ownBlock) := Lib.hid (fun e => by have := hvo.out gt e.symm; omega)
  have hgg : g ≠ gt := by omega
  rw [← hV1, ← hgt]
  clear hV1 hgt TT1 B1 hvo k0 k1 f0 f1 x0 x1 x2 x3 x4 hcut hgl hbl
  have t0c := HT.out.cell 0
  simp at t0c
  go_wp2
  obtain ⟨i0, z0, hi, hz, h5, h48, hz5⟩ := infoTmZ
  have hall : Hid (TB V1.drew g a' (n - 1) (c - 1) R (.slice a0 m c0) (m) (O) ∧ Holds V1.drew gt 38 #[.int .i64 t0.op, .int .i64 t0.fld, .int .i64 t0.rel, .int .i64 t0.num, .string t0.txt] ∧ Below g w V1.drew) := Lib.hid ⟨tb_drew TV.out, HT.out, BV.out.drew⟩
  have hsz : V1.drew.heap.size = V1.drew.heap.size := rfl
  refine wp_drawn_on (fun W => ∃ u, Holds W g 52 #[.slice a' (n - 1) (c - 1), u]) (by kernel_rfl) (⟨_, TV.out.blk⟩) (fun hHeld => ?_)
  generalize V1.drew = VD at hsz hall hHeld ⊢
  refine wT 0 (v := ?v1) rfl (by kernel_rfl) (fun _ _ _ h => h) ?h1 (by assumption) ?r1
  case h1 => (intro w hSw; (try dsimp only at hSw); go_simp; try with_reducible rfl)
  refine wT 1 (v := ?v2) rfl (by kernel_rfl) (fun _ _ _ h => h) ?h2 (by assumption) ?r2
  case h2 => (intro w hSw; (try dsimp only at hSw); go_simp; try with_reducible rfl)
  refine wT 2 (v := ?v3) rfl (by kernel_rfl) (fun _ _ _ h => h) ?h3 (by assumption) ?r3
  case h3 => (intro w hSw; (try dsimp only at hSw); go_simp; try with_reducible rfl)
  refine wT 3 (v := ?v4) rfl (by kernel_rfl) (fun _ _ _ h => h) ?h4 (by assumption) ?r4
  case h4 => (intro w hSw; (try dsimp only at hSw); go_simp; try with_reducible rfl)
  try simp only [Act.put, List.setIfInBounds_toArray, List.set_cons_zero, List.set_cons_succ]
  refine wpAnyH_ready (rs := [4, 5]) (by kernel_rfl) (by simp) ?_
  refine AllReadyH.cons (o := ⟨_, _, _, _, _, _⟩) rfl (fun K hK => ?_) (AllReadyH.cons (o := ⟨_, _, _, _, _, _⟩) rfl (fun K hK => ?_) AllReadyH.nil)
  · have c4 : (VD).cell? ⟨g, 1, none⟩ = some (.slice a0 m c0) := by first | exact (hbx.out.1.blk).cell 1 | exact hall.out.1.blk.cell 1
    go_simp
    refine hK.out _ _ (hHeld) (fun hHeld => ?_)
    clear hK K
    try simp only [Act.put, List.setIfInBounds_toArray, List.set_cons_zero, List.set_cons_succ]
    refine wpAnyH_ready (rs := [5]) (by kernel_rfl) (by simp) ?_
    refine AllReadyH.cons (o := ⟨_, _, _, _, _, _⟩) rfl (fun K hK => ?_) AllReadyH.nil
    have tc0 : (VD).cell? ⟨gt, 0, none⟩ = some (.int .i64 t0.op) := hall.out.2.1.cell 0
    have tc1 : (VD).cell? ⟨gt, 1, none⟩ = some (.int .i64 t0.fld) := hall.out.2.1.cell 1
    have tc2 : (VD).cell? ⟨gt, 2, none⟩ = some (.int .i64 t0.rel) := hall.out.2.1.cell 2
    have tc3 : (VD).cell? ⟨gt, 3, none⟩ = some (.int .i64 t0.num) := hall.out.2.1.cell 3
    have tc4 : (VD).cell? ⟨gt, 4, none⟩ = some (.string t0.txt) := hall.out.2.1.cell 4
    go_simp
    clear tc0 tc1 tc2 tc3 tc4
    refine hK.out _ _ (hHeld) (fun hHeld => ?_)
    clear hK K
    try simp only [Act.put, List.setIfInBounds_toArray, List.set_cons_zero, List.set_cons_succ]
    refine wpAnyH_ready (rs := [6]) (by kernel_rfl) (by simp) ?_
    refine AllReadyH.cons (o := ⟨_, _, _, _, _, _⟩) rfl (fun K hK => ?_) AllReadyH.nil
    have hx6 : ∃ u, Holds (VD.alloc (.cells #[.int .i64 t0.op, .int .i64 t0.fld, .int .i64 t0.rel, .int .i64 t0.num, .string t0.txt] 38)) g 52 #[.slice a' (n - 1) (c - 1), u] := ⟨_, hall.out.1.blk.alloc _⟩
    have hbx : Hid (TB (VD.alloc (.cells #[.int .i64 t0.op, .int .i64 t0.fld, .int .i64 t0.rel, .int .i64 t0.num, .string t0.txt] 38)) g a' (n - 1) (c - 1) R (.slice a0 m c0) (m) (O) ∧ SeesC (VD.alloc (.cells #[.int .i64 t0.op, .int .i64 t0.fld, .int .i64 t0.rel, .int .i64 t0.num, .string t0.txt] 38)).heap.size (VD.alloc (.cells #[.int .i64 t0.op, .int .i64 t0.fld, .int .i64 t0.rel, .int .i64 t0.num, .string t0.txt] 38)) (some ⟨VD.heap.size, 0, none⟩) (tmC t0) ∧ Below g w (VD.alloc (.cells #[.int .i64 t0.op, .int .i64 t0.fld, .int .i64 t0.rel, .int .i64 t0.num, .string t0.txt] 38))) := Lib.hid ⟨tb_alloc hall.out.1 _, seesC_lit VD 38 #[.int .i64 t0.op, .int .i64 t0.fld, .int .i64 t0.rel, .int .i64 t0.num, .string t0.txt], below_allocB hall.out.2.2 (Nat.le_of_lt hall.out.1.blk.lt) _⟩
    go_simp
    generalize VD.alloc (.cells #[.int .i64 t0.op, .int .i64 t0.fld, .int .i64 t0.rel, .int .i64 t0.num, .string t0.txt] 38) = V6 at *
    generalize VD.heap.size = g6 at *
    refine hK.out _ _ (hx6) (fun hHeld => ?_)
    clear hK K
    try simp only [Act.put, List.setIfInBounds_toArray, List.set_cons_zero, List.set_cons_succ]
    refine wpAnyH_ready (rs := [7]) (by kernel_rfl) (by simp) ?_
    refine AllReadyH.cons (o := ⟨_, _, _, _, _, _⟩) rfl (fun K hK => ?_) AllReadyH.nil
    refine wp_append_cellsB _ (.tmp 36) (.tmp 38) 22 rfl (g + 1) 38 i0 z0 5 48 Tryd.underlying22 hi hz h5 h48 hz5 (by decide) (.slice a0 m c0) (m) (tmcells (O)) hbx.out.1.own (hbx.out.1.blk.lt) _ (some ⟨g6, 0, none⟩) 1 1 (tmC t0) rfl hbx.out.2.1 (fun u hu => tmcells_one (l := [t0]) (by simpa [tmcells] using hu)) rfl rfl (by simp [maxLen]; omega) (by omega) ?_
    intro v7 W7 own7 grow7
    obtain ⟨a7, c7, rfl, -, -, -⟩ := seesC_own own7
    have hx7 : ∃ u, Holds W7 g 52 #[.slice a' (n - 1) (c - 1), u] := ⟨_, holds_grown hbx.out.1.blk grow7 (tb_not hbx.out.1)⟩
    have hend := Lib.hid (tb_told (t := t0) hbx.out.1 own7 grow7)
    have hendB := Lib.hid (tb_told_below (v' := .slice a7 (m + 1) c7) hbx.out.1 hbx.out.2.2 grow7)
    have hH7 := Lib.hid (holds_grown hbx.out.1.blk grow7 (tb_not hbx.out.1))
    clear own7 grow7
    refine hK.out _ _ (hx7) (fun hHeld => ?_)
    clear hK K
    refine wT 8 (v := ?v5) rfl (by kernel_rfl) (fun _ _ _ h => h) ?h5 (by assumption) ?r5
    case h5 => (intro w hSw; (try dsimp only at hSw); go_simp; try with_reducible rfl)
    refine wT 9 (v := ?v6) rfl (by kernel_rfl) (fun _ _ _ h => h) ?h6 (by assumption) ?r6
    case h6 => (intro w hSw; (try dsimp only at hSw); go_simp; try with_reducible rfl)
    try simp only [Act.put, List.setIfInBounds_toArray, List.set_cons_zero, List.set_cons_succ]
    refine wpAnyH_ready (rs := [10]) (by kernel_rfl) (by simp) ?_
    refine AllReadyH.cons (o := ⟨_, _, _, _, _, _⟩) rfl (fun K hK => ?_) AllReadyH.nil
    have c10 := hH7.out.cell 1
    have f10 := hH7.out.free 1
    simp at c10
    go_simp
    refine hK.out _ _ (⟨_, hend.out.blk⟩) (fun hHeld => ?_)
    clear hK K
    try simp only [Act.put, List.setIfInBounds_toArray, List.set_cons_zero, List.set_cons_succ]
    refine wpAnyH_done (by kernel_rfl) ?_ _
    clear hHeld hx6 hx7 hbx hH7 c4 c10 f10
    go_wp2
    go_end0
    exact ⟨rfl, hendB.out, _, _, _, _, by rw [show R.length = n - 1 by have := hlen'.out; omega]; exact hend.out⟩
  · have tc0 : (VD).cell? ⟨gt, 0, none⟩ = some (.int .i64 t0.op) := hall.out.2.1.cell 0
    have tc1 : (VD).cell? ⟨gt, 1, none⟩ = some (.int .i64 t0.fld) := hall.out.2.1.cell 1
    have tc2 : (VD).cell? ⟨gt, 2, none⟩ = some (.int .i64 t0.rel) := hall.out.2.1.cell 2
    have tc3 : (VD).cell? ⟨gt, 3, none⟩ = some (.int .i64 t0.num) := hall.out.2.1.cell 3
    have tc4 : (VD).cell? ⟨gt, 4, none⟩ = some (.string t0.txt) := hall.out.2.1.cell 4
    go_simp
    clear tc0 tc1 tc2 tc3 tc4
    refine hK.out _ _ (hHeld) (fun hHeld => ?_)
    clear hK K
    try simp only [Act.put, List.setIfInBounds_toArray, List.set_cons_zero, List.set_cons_succ]
    refine wpAnyH_ready (rs := [4, 6]) (by kernel_rfl) (by simp) ?_
    refine AllReadyH.cons (o := ⟨_, _, _, _, _, _⟩) rfl (fun K hK => ?_) (AllReadyH.cons (o := ⟨_, _, _, _, _, _⟩) rfl (fun K hK => ?_) AllReadyH.nil)
    · have c4 : (VD).cell? ⟨g, 1, none⟩ = some (.slice a0 m c0) := by first | exact (hbx.out.1.blk).cell 1 | exact hall.out.1.blk.cell 1
      go_simp
      refine hK.out _ _ (hHeld) (fun hHeld => ?_)
      clear hK K
      try simp only [Act.put, List.setIfInBounds_toArray, List.set_cons_zero, List.set_cons_succ]
      refine wpAnyH_ready (rs := [6]) (by kernel_rfl) (by simp) ?_
      refine AllReadyH.cons (o := ⟨_, _, _, _, _, _⟩) rfl (fun K hK => ?_) AllReadyH.nil
      have hx6 : ∃ u, Holds (VD.alloc (.cells #[.int .i64 t0.op, .int .i64 t0.fld, .int .i64 t0.rel, .int .i64 t0.num, .string t0.txt] 38)) g 52 #[.slice a' (n - 1) (c - 1), u] := ⟨_, hall.out.1.blk.alloc _⟩
      have hbx : Hid (TB (VD.alloc (.cells #[.int .i64 t0.op, .int .i64 t0.fld, .int .i64 t0.rel, .int .i64 t0.num, .string t0.txt] 38)) g a' (n - 1) (c - 1) R (.slice a0 m c0) (m) (O) ∧ SeesC (VD.alloc (.cells #[.int .i64 t0.op, .int .i64 t0.fld, .int .i64 t0.rel, .int .i64 t0.num, .string t0.txt] 38)).heap.size (VD.alloc (.cells #[.int .i64 t0.op, .int .i64 t0.fld, .int .i64 t0.rel, .int .i64 t0.num, .string t0.txt] 38)) (some ⟨VD.heap.size, 0, none⟩) (tmC t0) ∧ Below g w (VD.alloc (.cells #[.int .i64 t0.op, .int .i64 t0.fld, .int .i64 t0.rel, .int .i64 t0.num, .string t0.txt] 38))) := Lib.hid ⟨tb_alloc hall.out.1 _, seesC_lit VD 38 #[.int .i64 t0.op, .int .i64 t0.fld, .int .i64 t0.rel, .int .i64 t0.num, .string t0.txt], below_allocB hall.out.2.2 (Nat.le_of_lt hall.out.1.blk.lt) _⟩
      go_simp
      generalize VD.alloc (.cells #[.int .i64 t0.op, .int .i64 t0.fld, .int .i64 t0.rel, .int .i64 t0.num, .string t0.txt] 38) = V6 at *
      generalize VD.heap.size = g6 at *
      refine hK.out _ _ (hx6) (fun hHeld => ?_)
      clear hK K
      try simp only [Act.put, List.setIfInBounds_toArray, List.set_cons_zero, List.set_cons_succ]
      refine wpAnyH_ready (rs := [7]) (by kernel_rfl) (by simp) ?_
      refine AllReadyH.cons (o := ⟨_, _, _, _, _, _⟩) rfl (fun K hK => ?_) AllReadyH.nil
      refine wp_append_cellsB _ (.tmp 36) (.tmp 38) 22 rfl (g + 1) 38 i0 z0 5 48 Tryd.underlying22 hi hz h5 h48 hz5 (by decide) (.slice a0 m c0) (m) (tmcells (O)) hbx.out.1.own (hbx.out.1.blk.lt) _ (some ⟨g6, 0, none⟩) 1 1 (tmC t0) rfl hbx.out.2.1 (fun u hu => tmcells_one (l := [t0]) (by simpa [tmcells] using hu)) rfl rfl (by simp [maxLen]; omega) (by omega) ?_
      intro v7 W7 own7 grow7
      obtain ⟨a7, c7, rfl, -, -, -⟩ := seesC_own own7
      have hx7 : ∃ u, Holds W7 g 52 #[.slice a' (n - 1) (c - 1), u] := ⟨_, holds_grown hbx.out.1.blk grow7 (tb_not hbx.out.1)⟩
      have hend := Lib.hid (tb_told (t := t0) hbx.out.1 own7 grow7)
      have hendB := Lib.hid (tb_told_below (v' := .slice a7 (m + 1) c7) hbx.out.1 hbx.out.2.2 grow7)
      have hH7 := Lib.hid (holds_grown hbx.out.1.blk grow7 (tb_not hbx.out.1))
      clear own7 grow7
      refine hK.out _ _ (hx7) (fun hHeld => ?_)
      clear hK K
      refine wT 8 (v := ?v7) rfl (by kernel_rfl) (fun _ _ _ h => h) ?h7 (by assumption) ?r7
      case h7 => (intro w hSw; (try dsimp only at hSw); go_simp; try with_reducible rfl)
      refine wT 9 (v := ?v8) rfl (by kernel_rfl) (fun _ _ _ h => h) ?h8 (by assumption) ?r8
      case h8 => (intro w hSw; (try dsimp only at hSw); go_simp; try with_reducible rfl)
      try simp only [Act.put, List.setIfInBounds_toArray, List.set_cons_zero, List.set_cons_succ]
      refine wpAnyH_ready (rs := [10]) (by kernel_rfl) (by simp) ?_
      refine AllReadyH.cons (o := ⟨_, _, _, _, _, _⟩) rfl (fun K hK => ?_) AllReadyH.nil
      have c10 := hH7.out.cell 1
      have f10 := hH7.out.free 1
      simp at c10
      go_simp
      refine hK.out _ _ (⟨_, hend.out.blk⟩) (fun hHeld => ?_)
      clear hK K
      try simp only [Act.put, List.setIfInBounds_toArray, List.set_cons_zero, List.set_cons_succ]
      refine wpAnyH_done (by kernel_rfl) ?_ _
      clear hHeld hx6 hx7 hbx hH7 c4 c10 f10
      go_wp2
      go_end0
      exact ⟨rfl, hendB.out, _, _, _, _, by rw [show R.length = n - 1 by have := hlen'.out; omega]; exact hend.out⟩
    · have hx6 : ∃ u, Holds (VD.alloc (.cells #[.int .i64 t0.op, .int .i64 t0.fld, .int .i64 t0.rel, .int .i64 t0.num, .string t0.txt] 38)) g 52 #[.slice a' (n - 1) (c - 1), u] := ⟨_, hall.out.1.blk.alloc _⟩
      have hbx : Hid (TB (VD.alloc (.cells #[.int .i64 t0.op, .int .i64 t0.fld, .int .i64 t0.rel, .int .i64 t0.num, .string t0.txt] 38)) g a' (n - 1) (c - 1) R (.slice a0 m c0) (m) (O) ∧ SeesC (VD.alloc (.cells #[.int .i64 t0.op, .int .i64 t0.fld, .int .i64 t0.rel, .int .i64 t0.num, .string t0.txt] 38)).heap.size (VD.alloc (.cells #[.int .i64 t0.op, .int .i64 t0.fld, .int .i64 t0.rel, .int .i64 t0.num, .string t0.txt] 38)) (some ⟨VD.heap.size, 0, none⟩) (tmC t0) ∧ Below g w (VD.alloc (.cells #[.int .i64 t0.op, .int .i64 t0.fld, .int .i64 t0.rel, .int .i64 t0.num, .string t0.txt] 38))) := Lib.hid ⟨tb_alloc hall.out.1 _, seesC_lit VD 38 #[.int .i64 t0.op, .int .i64 t0.fld, .int .i64 t0.rel, .int .i64 t0.num, .string t0.txt], below_allocB hall.out.2.2 (Nat.le_of_lt hall.out.1.blk.lt) _⟩
      go_simp
      generalize VD.alloc (.cells #[.int .i64 t0.op, .int .i64 t0.fld, .int .i64 t0.rel, .int .i64 t0.num, .string t0.txt] 38) = V6 at *
      generalize VD.heap.size = g6 at *
      refine hK.out _ _ (hx6) (fun hHeld => ?_)
      clear hK K
      try simp only [Act.put, List.setIfInBounds_toArray, List.set_cons_zero, List.set_cons_succ]
      refine wpAnyH_ready (rs := [4]) (by kernel_rfl) (by simp) ?_
      refine AllReadyH.cons (o := ⟨_, _, _, _, _, _⟩) rfl (fun K hK => ?_) AllReadyH.nil
      have c4 : (V6).cell? ⟨g, 1, none⟩ = some (.slice a0 m c0) := by first | exact (hbx.out.1.blk).cell 1 | exact hall.out.1.blk.cell 1
      go_simp
      refine hK.out _ _ (hHeld) (fun hHeld => ?_)
      clear hK K
      try simp only [Act.put, List.setIfInBounds_toArray, List.set_cons_zero, List.set_cons_succ]
      refine wpAnyH_ready (rs := [7]) (by kernel_rfl) (by simp) ?_
      refine AllReadyH.cons (o := ⟨_, _, _, _, _, _⟩) rfl (fun K hK => ?_) AllReadyH.nil
      refine wp_append_cellsB _ (.tmp 36) (.tmp 38) 22 rfl (g + 1) 38 i0 z0 5 48 Tryd.underlying22 hi hz h5 h48 hz5 (by decide) (.slice a0 m c0) (m) (tmcells (O)) hbx.out.1.own (hbx.out.1.blk.lt) _ (some ⟨g6, 0, none⟩) 1 1 (tmC t0) rfl hbx.out.2.1 (fun u hu => tmcells_one (l := [t0]) (by simpa [tmcells] using hu)) rfl rfl (by simp [maxLen]; omega) (by omega) ?_
      intro v7 W7 own7 grow7
      obtain ⟨a7, c7, rfl, -, -, -⟩ := seesC_own own7
      have hx7 : ∃ u, Holds W7 g 52 #[.slice a' (n - 1) (c - 1), u] := ⟨_, holds_grown hbx.out.1.blk grow7 (tb_not hbx.out.1)⟩
      have hend := Lib.hid (tb_told (t := t0) hbx.out.1 own7 grow7)
      have hendB := Lib.hid (tb_told_below (v' := .slice a7 (m + 1) c7) hbx.out.1 hbx.out.2.2 grow7)
      have hH7 := Lib.hid (holds_grown hbx.out.1.blk grow7 (tb_not hbx.out.1))
      clear own7 grow7
      refine hK.out _ _ (hx7) (fun hHeld => ?_)
      clear hK K
      refine wT 8 (v := ?v9) rfl (by kernel_rfl) (fun _ _ _ h => h) ?h9 (by assumption) ?r9
      case h9 => (intro w hSw; (try dsimp only at hSw); go_simp; try with_reducible rfl)
      refine wT 9 (v := ?v10) rfl (by kernel_rfl) (fun _ _ _ h => h) ?h10 (by assumption) ?r10
      case h10 => (intro w hSw; (try dsimp only at hSw); go_simp; try with_reducible rfl)
      try simp only [Act.put, List.setIfInBounds_toArray, List.set_cons_zero, List.set_cons_succ]
      refine wpAnyH_ready (rs := [10]) (by kernel_rfl) (by simp) ?_
      refine AllReadyH.cons (o := ⟨_, _, _, _, _, _⟩) rfl (fun K hK => ?_) AllReadyH.nil
      have c10 := hH7.out.cell 1
      have f10 := hH7.out.free 1
      simp at c10
      go_simp
      refine hK.out _ _ (⟨_, hend.out.blk⟩) (fun hHeld => ?_)
      clear hK K
      try simp only [Act.put, List.setIfInBounds_toArray, List.set_cons_zero, List.set_cons_succ]
      refine wpAnyH_done (by kernel_rfl) ?_ _
      clear hHeld hx6 hx7 hbx hH7 c4 c10 f10
      go_wp2
      go_end0
      exact ⟨rfl, hendB.out, _, _, _, _, by rw [show R.length = n - 1 by have := hlen'.out; omega]; exact hend.out⟩
set_option maxRecDepth 100000 in
set_option maxHeartbeats 8000000 in
theorem turn_leafn (w : World) (g : Nat) (a : Option Addr) (n c : Nat) (t0 : TmD) (R : List TmD) (v : Value) (m : Nat) (O : List TmD) (h : TB w g a n c (t0 :: R) v m O) (h3 : t0.op = 1 ∨ t0.op = 2) (hm : m ≤ 100000) :
    Calls Tryd.prog 28 #[.pointer (some ⟨g, 0, none⟩), .bool true] w (TurnE w g R (O ++ [opT 3, t0])) := by
  have hOO : Hid (O ++ [opT 3, t0] = (O ++ [opT 3]) ++ [t0]) := Lib.hid (by simp)
  obtain ⟨b, off, rfl, hbg, x0, x1, x2, x3, x4⟩ := seesG_first h.sees
  obtain ⟨a', hcut, hse⟩ := seesG_rest h.sees h.len h.cap
  obtain ⟨a0, c0, rfl, -, -, -⟩ := seesC_own h.own
  have hlen := h.len
  simp only [List.length_cons] at hlen
  have hn0 : (0 : Int) < (n : Int) := by omega
  have k0 := h.blk.cell 0
  have k1 := h.blk.cell 1
  have f0 := h.blk.free 0
  have f1 := h.blk.free 1
  simp at k0 k1
  have hgl := h.blk.lt
  have hbl : b < w.heap.size := by omega
  have hbgn : b ≠ g := by omega
  have TT1 := Lib.hid (fun cs => turn_taken h hse cs)
  have B1 := Lib.hid (fun cs => below_allocB (below_set (Below.refl g w) (p := ⟨g, 0, none⟩) (Nat.le_refl _) (.slice a' (n - 1) (c - 1))) (by simp; omega) (.cells cs 38))
  have hvo : Hid (∀ k, (Value.slice a0 m c0).ownBlock = some k → k < w.heap.size) := Lib.hid (fun k hk => (h.own.lt k hk).2)
  have hlen' := Lib.hid hlen
  clear h hse hlen
  have e3 : (t0.op == 3) = false := by rcases h3 with e | e <;> rw [e] <;> decide
  have e4 : (t0.op == 4) = false := by rcases h3 with e | e <;> rw [e] <;> decide
  have e5 : (t0.op == 5) = false := by rcases h3 with e | e <;> rw [e] <;> decide
  clear h3
  go_enter Tryd.func28, Tryd.ntmps28
  go_upto_region 2 with fail
  obtain ⟨V1, hV1⟩ : ∃ V1, V1 = (w.setCell ⟨g, 0, none⟩ (.slice a' (n - 1) (c - 1))).alloc (.cells #[.int .i64 t0.op, .int .i64 t0.fld, .int .i64 t0.rel, .int .i64 t0.num, .string t0.txt] 38) := ⟨_, rfl⟩
  have TV : Hid (TB V1 g a' (n - 1) (c - 1) R (.slice a0 m c0) m O) := Lib.hid (by rw [hV1]; exact TT1.out _)
  have BV : Hid (Below g w V1) := Lib.hid (by rw [hV1]; exact B1.out _)
  obtain ⟨gt, hgt⟩ : ∃ gt, gt = w.heap.size := ⟨_, rfl⟩
  have HT : Hid (Holds V1 gt 38 #[.int .i64 t0.op, .int .i64 t0.fld, .int .i64 t0.rel, .int .i64 t0.num, .string t0.txt]) := Lib.hid (by
    rw [hV1, hgt]
    have := Holds.new (w.setCell ⟨g, 0, none⟩ (.slice a' (n - 1) (c - 1))) 38 #[.int .i64 t0.op, .int .i64 t0.fld, .int .i64 t0.rel, .int .i64 t0.num, .string t0.txt]
    rwa [show (w.setCell ⟨g, 0, none⟩ (.slice a' (n - 1) (c - 1))).heap.size = w.heap.size by simp] at this)
  have hvg : Hid (some gt ≠ (Value.slice a0 m c0).ownBlock) := Lib.hid (fun e => by have := hvo.out gt e.symm; omega)
  have hgg : g ≠ gt := by omega
  rw [← hV1, ← hgt]
  clear hV1 hgt TT1 B1 hvo k0 k1 f0 f1 x0 x1 x2 x3 x4 hcut hgl hbl
  have t0c := HT.out.cell 0
  simp at t0c
  obtain ⟨i0, z0, hi, hz, h5, h48, hz5⟩ := infoTmZ
  have q0 := TV.out.blk.cell 0
  have q1 := TV.out.blk.cell 1
  simp at q0 q1
  obtain ⟨V6, hV6⟩ : ∃ V6, V6 = V1.alloc (.cells #[.int .i64 3, .int .i64 0, .int .i64 0, .int .i64 0, .string ⟨#[]⟩] 38) := ⟨_, rfl⟩
  have T6 : Hid (TB V6 g a' (n - 1) (c - 1) R (.slice a0 m c0) m O) := Lib.hid (by rw [hV6]; exact tb_alloc TV.out _)
  have S6 : Hid (SeesC V6.heap.size V6 (some ⟨V1.heap.size, 0, none⟩) (tmC (opT 3))) := Lib.hid (by rw [hV6]; exact seesC_lit V1 38 #[.int .i64 3, .int .i64 0, .int .i64 0, .int .i64 0, .string ⟨#[]⟩])
  have B6 : Hid (Below g w V6) := Lib.hid (by rw [hV6]; exact below_allocB BV.out (Nat.le_of_lt TV.out.blk.lt) _)
  have H6 : Hid (Holds V6 gt 38 #[.int .i64 t0.op, .int .i64 t0.fld, .int .i64 t0.rel, .int .i64 t0.num, .string t0.txt]) := Lib.hid (by rw [hV6]; exact HT.out.alloc _)
  have hV6' := Lib.hid hV6
  clear hV6 TV HT BV
  go_wp2_with
    (at_builtin; rw [← hV6'.out]
     refine wpList_append_base _ rfl (.tmp 26) (.tmp 28) 22 rfl (g + 1) 38 i0 z0 5 48 Tryd.underlying22 hi hz h5 h48 hz5 (by decide) _ m (tmcells O) T6.out.own (T6.out.blk.lt) _ (some ⟨V1.heap.size, 0, none⟩) 1 1 (tmC (opT 3)) rfl S6.out (fun u hu => tmcells_one (l := [opT 3]) (by simpa [tmcells] using hu)) rfl rfl (by simp [maxLen]; omega) (by omega) ?_
     intro v7 W7 own7 grow7
     obtain ⟨a7, c7, rfl, -, -, -⟩ := seesC_own own7
     have TV := Lib.hid (tb_told (t := opT 3) T6.out own7 grow7)
     have BV := Lib.hid (tb_told_below (v' := .slice a7 (m + 1) c7) T6.out B6.out grow7)
     have HT := Lib.hid ((holds_grown H6.out grow7 hvg.out).far (p := ⟨g, 1, none⟩) (fun e => hgg e.symm) (.slice a7 (m + 1) c7))
     have hH7 := Lib.hid (holds_grown T6.out.blk grow7 (tb_not T6.out))
     have c10 := hH7.out.cell 1
     have f10 := hH7.out.free 1
     simp at c10
     clear own7 grow7 q0 q1 T6 S6 B6 H6 hV6')
  generalize hW8 : W7.setCell ⟨g, 1, none⟩ (.slice a7 (m + 1) c7) = W8 at *
  clear hW8 c10 f10 hH7 i0 z0 hi hz h5 h48 hz5
  obtain ⟨i0, z0, hi, hz, h5, h48, hz5⟩ := infoTmZ
  have hall : Hid (TB W8.drew g a' (n - 1) (c - 1) R (.slice a7 (m + 1) c7) (m + 1) (O ++ [opT 3]) ∧ Holds W8.drew gt 38 #[.int .i64 t0.op, .int .i64 t0.fld, .int .i64 t0.rel, .int .i64 t0.num, .string t0.txt] ∧ Below g w W8.drew) := Lib.hid ⟨tb_drew TV.out, HT.out, BV.out.drew⟩
  have hsz : W8.drew.heap.size = W8.drew.heap.size := rfl
  refine wp_drawn_on (fun W => ∃ u, Holds W g 52 #[.slice a' (n - 1) (c - 1), u]) (by kernel_rfl) (⟨_, TV.out.blk⟩) (fun hHeld => ?_)
  generalize W8.drew = VD at hsz hall hHeld ⊢
  refine wT 0 (v := ?v11) rfl (by kernel_rfl) (fun _ _ _ h => h) ?h11 (by assumption) ?r11
  case h11 => (intro w hSw; (try dsimp only at hSw); go_simp; try with_reducible rfl)
  refine wT 1 (v := ?v12) rfl (by kernel_rfl) (fun _ _ _ h => h) ?h12 (by assumption) ?r12
  case h12 => (intro w hSw; (try dsimp only at hSw); go_simp; try with_reducible rfl)
  refine wT 2 (v := ?v13) rfl (by kernel_rfl) (fun _ _ _ h => h) ?h13 (by assumption) ?r13
  case h13 => (intro w hSw; (try dsimp only at hSw); go_simp; try with_reducible rfl)
  refine wT 3 (v := ?v14) rfl (by kernel_rfl) (fun _ _ _ h => h) ?h14 (by assumption) ?r14
  case h14 => (intro w hSw; (try dsimp only at hSw); go_simp; try with_reducible rfl)
  try simp only [Act.put, List.setIfInBounds_toArray, List.set_cons_zero, List.set_cons_succ]
  refine wpAnyH_ready (rs := [4, 5]) (by kernel_rfl) (by simp) ?_
  refine AllReadyH.cons (o := ⟨_, _, _, _, _, _⟩) rfl (fun K hK => ?_) (AllReadyH.cons (o := ⟨_, _, _, _, _, _⟩) rfl (fun K hK => ?_) AllReadyH.nil)
  · have c4 : (VD).cell? ⟨g, 1, none⟩ = some (.slice a7 (m + 1) c7) := by first | exact (hbx.out.1.blk).cell 1 | exact hall.out.1.blk.cell 1
    go_simp
    refine hK.out _ _ (hHeld) (fun hHeld => ?_)
    clear hK K
    try simp only [Act.put, List.setIfInBounds_toArray, List.set_cons_zero, List.set_cons_succ]
    refine wpAnyH_ready (rs := [5]) (by kernel_rfl) (by simp) ?_
    refine AllReadyH.cons (o := ⟨_, _, _, _, _, _⟩) rfl (fun K hK => ?_) AllReadyH.nil
    have tc0 : (VD).cell? ⟨gt, 0, none⟩ = some (.int .i64 t0.op) := hall.out.2.1.cell 0
    have tc1 : (VD).cell? ⟨gt, 1, none⟩ = some (.int .i64 t0.fld) := hall.out.2.1.cell 1
    have tc2 : (VD).cell? ⟨gt, 2, none⟩ = some (.int .i64 t0.rel) := hall.out.2.1.cell 2
    have tc3 : (VD).cell? ⟨gt, 3, none⟩ = some (.int .i64 t0.num) := hall.out.2.1.cell 3
    have tc4 : (VD).cell? ⟨gt, 4, none⟩ = some (.string t0.txt) := hall.out.2.1.cell 4
    go_simp
    clear tc0 tc1 tc2 tc3 tc4
    refine hK.out _ _ (hHeld) (fun hHeld => ?_)
    clear hK K
    try simp only [Act.put, List.setIfInBounds_toArray, List.set_cons_zero, List.set_cons_succ]
    refine wpAnyH_ready (rs := [6]) (by kernel_rfl) (by simp) ?_
    refine AllReadyH.cons (o := ⟨_, _, _, _, _, _⟩) rfl (fun K hK => ?_) AllReadyH.nil
    have hx6 : ∃ u, Holds (VD.alloc (.cells #[.int .i64 t0.op, .int .i64 t0.fld, .int .i64 t0.rel, .int .i64 t0.num, .string t0.txt] 38)) g 52 #[.slice a' (n - 1) (c - 1), u] := ⟨_, hall.out.1.blk.alloc _⟩
    have hbx : Hid (TB (VD.alloc (.cells #[.int .i64 t0.op, .int .i64 t0.fld, .int .i64 t0.rel, .int .i64 t0.num, .string t0.txt] 38)) g a' (n - 1) (c - 1) R (.slice a7 (m + 1) c7) (m + 1) (O ++ [opT 3]) ∧ SeesC (VD.alloc (.cells #[.int .i64 t0.op, .int .i64 t0.fld, .int .i64 t0.rel, .int .i64 t0.num, .string t0.txt] 38)).heap.size (VD.alloc (.cells #[.int .i64 t0.op, .int .i64 t0.fld, .int .i64 t0.rel, .int .i64 t0.num, .string t0.txt] 38)) (some ⟨VD.heap.size, 0, none⟩) (tmC t0) ∧ Below g w (VD.alloc (.cells #[.int .i64 t0.op, .int .i64 t0.fld, .int .i64 t0.rel, .int .i64 t0.num, .string t0.txt] 38))) := Lib.hid ⟨tb_alloc hall.out.1 _, seesC_lit VD 38 #[.int .i64 t0.op, .int .i64 t0.fld, .int .i64 t0.rel, .int .i64 t0.num, .string t0.txt], below_allocB hall.out.2.2 (Nat.le_of_lt hall.out.1.blk.lt) _⟩
    go_simp
    generalize VD.alloc (.cells #[.int .i64 t0.op, .int .i64 t0.fld, .int .i64 t0.rel, .int .i64 t0.num, .string t0.txt] 38) = V6 at *
    generalize VD.heap.size = g6 at *
    refine hK.out _ _ (hx6) (fun hHeld => ?_)
    clear hK K
    try simp only [Act.put, List.setIfInBounds_toArray, List.set_cons_zero, List.set_cons_succ]
    refine wpAnyH_ready (rs := [7]) (by kernel_rfl) (by simp) ?_
    refine AllReadyH.cons (o := ⟨_, _, _, _, _, _⟩) rfl (fun K hK => ?_) AllReadyH.nil
    refine wp_append_cellsB _ (.tmp 36) (.tmp 38) 22 rfl (g + 1) 38 i0 z0 5 48 Tryd.underlying22 hi hz h5 h48 hz5 (by decide) (.slice a7 (m + 1) c7) (m + 1) (tmcells (O ++ [opT 3])) hbx.out.1.own (hbx.out.1.blk.lt) _ (some ⟨g6, 0, none⟩) 1 1 (tmC t0) rfl hbx.out.2.1 (fun u hu => tmcells_one (l := [t0]) (by simpa [tmcells] using hu)) rfl rfl (by simp [maxLen]; omega) (by omega) ?_
    intro v7 W7 own7 grow7
    obtain ⟨a7, c7, rfl, -, -, -⟩ := seesC_own own7
    have hx7 : ∃ u, Holds W7 g 52 #[.slice a' (n - 1) (c - 1), u] := ⟨_, holds_grown hbx.out.1.blk grow7 (tb_not hbx.out.1)⟩
    have hend := Lib.hid (tb_told (t := t0) hbx.out.1 own7 grow7)
    have hendB := Lib.hid (tb_told_below (v' := .slice a7 (m + 1 + 1) c7) hbx.out.1 hbx.out.2.2 grow7)
    have hH7 := Lib.hid (holds_grown hbx.out.1.blk grow7 (tb_not hbx.out.1))
    clear own7 grow7
    refine hK.out _ _ (hx7) (fun hHeld => ?_)
    clear hK K
    refine wT 8 (v := ?v15) rfl (by kernel_rfl) (fun _ _ _ h => h) ?h15 (by assumption) ?r15
    case h15 => (intro w hSw; (try dsimp only at hSw); go_simp; try with_reducible rfl)
    refine wT 9 (v := ?v16) rfl (by kernel_rfl) (fun _ _ _ h => h) ?h16 (by assumption) ?r16
    case h16 => (intro w hSw; (try dsimp only at hSw); go_simp; try with_reducible rfl)
    try simp only [Act.put, List.setIfInBounds_toArray, List.set_cons_zero, List.set_cons_succ]
    refine wpAnyH_ready (rs := [10]) (by kernel_rfl) (by simp) ?_
    refine AllReadyH.cons (o := ⟨_, _, _, _, _, _⟩) rfl (fun K hK => ?_) AllReadyH.nil
    have c10 := hH7.out.cell 1
    have f10 := hH7.out.free 1
    simp at c10
    go_simp
    refine hK.out _ _ (⟨_, hend.out.blk⟩) (fun hHeld => ?_)
    clear hK K
    try simp only [Act.put, List.setIfInBounds_toArray, List.set_cons_zero, List.set_cons_succ]
    refine wpAnyH_done (by kernel_rfl) ?_ _
    clear hHeld hx6 hx7 hbx hH7 c4 c10 f10
    go_wp2
    go_end0
    exact ⟨rfl, hendB.out, _, _, _, _, by rw [show R.length = n - 1 by have := hlen'.out; omega]; rw [hOO.out]; exact hend.out⟩
  · have tc0 : (VD).cell? ⟨gt, 0, none⟩ = some (.int .i64 t0.op) := hall.out.2.1.cell 0
    have tc1 : (VD).cell? ⟨gt, 1, none⟩ = some (.int .i64 t0.fld) := hall.out.2.1.cell 1
    have tc2 : (VD).cell? ⟨gt, 2, none⟩ = some (.int .i64 t0.rel) := hall.out.2.1.cell 2
    have tc3 : (VD).cell? ⟨gt, 3, none⟩ = some (.int .i64 t0.num) := hall.out.2.1.cell 3
    have tc4 : (VD).cell? ⟨gt, 4, none⟩ = some (.string t0.txt) := hall.out.2.1.cell 4
    go_simp
    clear tc0 tc1 tc2 tc3 tc4
    refine hK.out _ _ (hHeld) (fun hHeld => ?_)
    clear hK K
    try simp only [Act.put, List.setIfInBounds_toArray, List.set_cons_zero, List.set_cons_succ]
    refine wpAnyH_ready (rs := [4, 6]) (by kernel_rfl) (by simp) ?_
    refine AllReadyH.cons (o := ⟨_, _, _, _, _, _⟩) rfl (fun K hK => ?_) (AllReadyH.cons (o := ⟨_, _, _, _, _, _⟩) rfl (fun K hK => ?_) AllReadyH.nil)
    · have c4 : (VD).cell? ⟨g, 1, none⟩ = some (.slice a7 (m + 1) c7) := by first | exact (hbx.out.1.blk).cell 1 | exact hall.out.1.blk.cell 1
      go_simp
      refine hK.out _ _ (hHeld) (fun hHeld => ?_)
      clear hK K
      try simp only [Act.put, List.setIfInBounds_toArray, List.set_cons_zero, List.set_cons_succ]
      refine wpAnyH_ready (rs := [6]) (by kernel_rfl) (by simp) ?_
      refine AllReadyH.cons (o := ⟨_, _, _, _, _, _⟩) rfl (fun K hK => ?_) AllReadyH.nil
      have hx6 : ∃ u, Holds (VD.alloc (.cells #[.int .i64 t0.op, .int .i64 t0.fld, .int .i64 t0.rel, .int .i64 t0.num, .string t0.txt] 38)) g 52 #[.slice a' (n - 1) (c - 1), u] := ⟨_, hall.out.1.blk.alloc _⟩
      have hbx : Hid (TB (VD.alloc (.cells #[.int .i64 t0.op, .int .i64 t0.fld, .int .i64 t0.rel, .int .i64 t0.num, .string t0.txt] 38)) g a' (n - 1) (c - 1) R (.slice a7 (m + 1) c7) (m + 1) (O ++ [opT 3]) ∧ SeesC (VD.alloc (.cells #[.int .i64 t0.op, .int .i64 t0.fld, .int .i64 t0.rel, .int .i64 t0.num, .string t0.txt] 38)).heap.size (VD.alloc (.cells #[.int .i64 t0.op, .int .i64 t0.fld, .int .i64 t0.rel, .int .i64 t0.num, .string t0.txt] 38)) (some ⟨VD.heap.size, 0, none⟩) (tmC t0) ∧ Below g w (VD.alloc (.cells #[.int .i64 t0.op, .int .i64 t0.fld, .int .i64 t0.rel, .int .i64 t0.num, .string t0.txt] 38))) := Lib.hid ⟨tb_alloc hall.out.1 _, seesC_lit VD 38 #[.int .i64 t0.op, .int .i64 t0.fld, .int .i64 t0.rel, .int .i64 t0.num, .string t0.txt], below_allocB hall.out.2.2 (Nat.le_of_lt hall.out.1.blk.lt) _⟩
      go_simp
      generalize VD.alloc (.cells #[.int .i64 t0.op, .int .i64 t0.fld, .int .i64 t0.rel, .int .i64 t0.num, .string t0.txt] 38) = V6 at *
      generalize VD.heap.size = g6 at *
      refine hK.out _ _ (hx6) (fun hHeld => ?_)
      clear hK K
      try simp only [Act.put, List.setIfInBounds_toArray, List.set_cons_zero, List.set_cons_succ]
      refine wpAnyH_ready (rs := [7]) (by kernel_rfl) (by simp) ?_
      refine AllReadyH.cons (o := ⟨_, _, _, _, _, _⟩) rfl (fun K hK => ?_) AllReadyH.nil
      refine wp_append_cellsB _ (.tmp 36) (.tmp 38) 22 rfl (g + 1) 38 i0 z0 5 48 Tryd.underlying22 hi hz h5 h48 hz5 (by decide) (.slice a7 (m + 1) c7) (m + 1) (tmcells (O ++ [opT 3])) hbx.out.1.own (hbx.out.1.blk.lt) _ (some ⟨g6, 0, none⟩) 1 1 (tmC t0) rfl hbx.out.2.1 (fun u hu => tmcells_one (l := [t0]) (by simpa [tmcells] using hu)) rfl rfl (by simp [maxLen]; omega) (by omega) ?_
      intro v7 W7 own7 grow7
      obtain ⟨a7, c7, rfl, -, -, -⟩ := seesC_own own7
      have hx7 : ∃ u, Holds W7 g 52 #[.slice a' (n - 1) (c - 1), u] := ⟨_, holds_grown hbx.out.1.blk grow7 (tb_not hbx.out.1)⟩
      have hend := Lib.hid (tb_told (t := t0) hbx.out.1 own7 grow7)
      have hendB := Lib.hid (tb_told_below (v' := .slice a7 (m + 1 + 1) c7) hbx.out.1 hbx.out.2.2 grow7)
      have hH7 := Lib.hid (holds_grown hbx.out.1.blk grow7 (tb_not hbx.out.1))
      clear own7 grow7
      refine hK.out _ _ (hx7) (fun hHeld => ?_)
      clear hK K
      refine wT 8 (v := ?v17) rfl (by kernel_rfl) (fun _ _ _ h => h) ?h17 (by assumption) ?r17
      case h17 => (intro w hSw; (try dsimp only at hSw); go_simp; try with_reducible rfl)
      refine wT 9 (v := ?v18) rfl (by kernel_rfl) (fun _ _ _ h => h) ?h18 (by assumption) ?r18
      case h18 => (intro w hSw; (try dsimp only at hSw); go_simp; try with_reducible rfl)
      try simp only [Act.put, List.setIfInBounds_toArray, List.set_cons_zero, List.set_cons_succ]
      refine wpAnyH_ready (rs := [10]) (by kernel_rfl) (by simp) ?_
      refine AllReadyH.cons (o := ⟨_, _, _, _, _, _⟩) rfl (fun K hK => ?_) AllReadyH.nil
      have c10 := hH7.out.cell 1
      have f10 := hH7.out.free 1
      simp at c10
      go_simp
      refine hK.out _ _ (⟨_, hend.out.blk⟩) (fun hHeld => ?_)
      clear hK K
      try simp only [Act.put, List.setIfInBounds_toArray, List.set_cons_zero, List.set_cons_succ]
      refine wpAnyH_done (by kernel_rfl) ?_ _
      clear hHeld hx6 hx7 hbx hH7 c4 c10 f10
      go_wp2
      go_end0
      exact ⟨rfl, hendB.out, _, _, _, _, by rw [show R.length = n - 1 by have := hlen'.out; omega]; rw [hOO.out]; exact hend.out⟩
    · have hx6 : ∃ u, Holds (VD.alloc (.cells #[.int .i64 t0.op, .int .i64 t0.fld, .int .i64 t0.rel, .int .i64 t0.num, .string t0.txt] 38)) g 52 #[.slice a' (n - 1) (c - 1), u] := ⟨_, hall.out.1.blk.alloc _⟩
      have hbx : Hid (TB (VD.alloc (.cells #[.int .i64 t0.op, .int .i64 t0.fld, .int .i64 t0.rel, .int .i64 t0.num, .string t0.txt] 38)) g a' (n - 1) (c - 1) R (.slice a7 (m + 1) c7) (m + 1) (O ++ [opT 3]) ∧ SeesC (VD.alloc (.cells #[.int .i64 t0.op, .int .i64 t0.fld, .int .i64 t0.rel, .int .i64 t0.num, .string t0.txt] 38)).heap.size (VD.alloc (.cells #[.int .i64 t0.op, .int .i64 t0.fld, .int .i64 t0.rel, .int .i64 t0.num, .string t0.txt] 38)) (some ⟨VD.heap.size, 0, none⟩) (tmC t0) ∧ Below g w (VD.alloc (.cells #[.int .i64 t0.op, .int .i64 t0.fld, .int .i64 t0.rel, .int .i64 t0.num, .string t0.txt] 38))) := Lib.hid ⟨tb_alloc hall.out.1 _, seesC_lit VD 38 #[.int .i64 t0.op, .int .i64 t0.fld, .int .i64 t0.rel, .int .i64 t0.num, .string t0.txt], below_allocB hall.out.2.2 (Nat.le_of_lt hall.out.1.blk.lt) _⟩
      go_simp
      generalize VD.alloc (.cells #[.int .i64 t0.op, .int .i64 t0.fld, .int .i64 t0.rel, .int .i64 t0.num, .string t0.txt] 38) = V6 at *
      generalize VD.heap.size = g6 at *
      refine hK.out _ _ (hx6) (fun hHeld => ?_)
      clear hK K
      try simp only [Act.put, List.setIfInBounds_toArray, List.set_cons_zero, List.set_cons_succ]
      refine wpAnyH_ready (rs := [4]) (by kernel_rfl) (by simp) ?_
      refine AllReadyH.cons (o := ⟨_, _, _, _, _, _⟩) rfl (fun K hK => ?_) AllReadyH.nil
      have c4 : (V6).cell? ⟨g, 1, none⟩ = some (.slice a7 (m + 1) c7) := by first | exact (hbx.out.1.blk).cell 1 | exact hall.out.1.blk.cell 1
      go_simp
      refine hK.out _ _ (hHeld) (fun hHeld => ?_)
      clear hK K
      try simp only [Act.put, List.setIfInBounds_toArray, List.set_cons_zero, List.set_cons_succ]
      refine wpAnyH_ready (rs := [7]) (by kernel_rfl) (by simp) ?_
      refine AllReadyH.cons (o := ⟨_, _, _, _, _, _⟩) rfl (fun K hK => ?_) AllReadyH.nil
      refine wp_append_cellsB _ (.tmp 36) (.tmp 38) 22 rfl (g + 1) 38 i0 z0 5 48 Tryd.underlying22 hi hz h5 h48 hz5 (by decide) (.slice a7 (m + 1) c7) (m + 1) (tmcells (O ++ [opT 3])) hbx.out.1.own (hbx.out.1.blk.lt) _ (some ⟨g6, 0, none⟩) 1 1 (tmC t0) rfl hbx.out.2.1 (fun u hu => tmcells_one (l := [t0]) (by simpa [tmcells] using hu)) rfl rfl (by simp [maxLen]; omega) (by omega) ?_
      intro v7 W7 own7 grow7
      obtain ⟨a7, c7, rfl, -, -, -⟩ := seesC_own own7
      have hx7 : ∃ u, Holds W7 g 52 #[.slice a' (n - 1) (c - 1), u] := ⟨_, holds_grown hbx.out.1.blk grow7 (tb_not hbx.out.1)⟩
      have hend := Lib.hid (tb_told (t := t0) hbx.out.1 own7 grow7)
      have hendB := Lib.hid (tb_told_below (v' := .slice a7 (m + 1 + 1) c7) hbx.out.1 hbx.out.2.2 grow7)
      have hH7 := Lib.hid (holds_grown hbx.out.1.blk grow7 (tb_not hbx.out.1))
      clear own7 grow7
      refine hK.out _ _ (hx7) (fun hHeld => ?_)
      clear hK K
      refine wT 8 (v := ?v19) rfl (by kernel_rfl) (fun _ _ _ h => h) ?h19 (by assumption) ?r19
      case h19 => (intro w hSw; (try dsimp only at hSw); go_simp; try with_reducible rfl)
      refine wT 9 (v := ?v20) rfl (by kernel_rfl) (fun _ _ _ h => h) ?h20 (by assumption) ?r20
      case h20 => (intro w hSw; (try dsimp only at hSw); go_simp; try with_reducible rfl)
      try simp only [Act.put, List.setIfInBounds_toArray, List.set_cons_zero, List.set_cons_succ]
      refine wpAnyH_ready (rs := [10]) (by kernel_rfl) (by simp) ?_
      refine AllReadyH.cons (o := ⟨_, _, _, _, _, _⟩) rfl (fun K hK => ?_) AllReadyH.nil
      have c10 := hH7.out.cell 1
      have f10 := hH7.out.free 1
      simp at c10
      go_simp
      refine hK.out _ _ (⟨_, hend.out.blk⟩) (fun hHeld => ?_)
      clear hK K
      try simp only [Act.put, List.setIfInBounds_toArray, List.set_cons_zero, List.set_cons_succ]
      refine wpAnyH_done (by kernel_rfl) ?_ _
      clear hHeld hx6 hx7 hbx hH7 c4 c10 f10
      go_wp2
      go_end0
      exact ⟨rfl, hendB.out, _, _, _, _, by rw [show R.length = n - 1 by have := hlen'.out; omega]; rw [hOO.out]; exact hend.out⟩
theorem tb_set {w : World} {g gt : Nat} {a : Option Addr} {n c : Nat} {L : List TmD} {v : Value} {m : Nat} {O : List TmD} (h : TB w g a n c L v m O) (hv : some gt ≠ v.ownBlock) (hlt : g < gt) (u : Value) : TB (w.setCell ⟨gt, 0, none⟩ u) g a n c L v m O :=
  ⟨h.blk.far (p := ⟨gt, 0, none⟩) (fun e => by simp at e; omega) u, h.len, h.cap, h.max, h.sees.below (below_set (Below.refl _ _) (p := ⟨gt, 0, none⟩) (Nat.le_of_lt hlt) u), own_belowE h.own ((BelowE.refl [gt] _ _).setIn (p := ⟨gt, 0, none⟩) (by simp) u) (fun k hk => by
    simp only [List.mem_singleton]
    rintro rfl
    exact hv hk.symm)⟩
set_option maxRecDepth 100000 in
set_option maxHeartbeats 8000000 in
theorem turn_f4 (w : World) (g : Nat) (a : Option Addr) (n c : Nat) (t0 : TmD) (R : List TmD) (v : Value) (m : Nat) (O : List TmD) (P1 O1 P2 O2 : List TmD) (h : TB w g a n c (t0 :: R) v m O) (h3 : t0.op = 4) (hm : m ≤ 100000)
    (ih1 : ∀ W a' n' c' v' m', TB W g a' n' c' R v' m' (O ++ [t0]) → Calls Tryd.prog 28 #[.pointer (some ⟨g, 0, none⟩), .bool false] W (TurnE W g P1 O1))
    (ih2 : ∀ W a' n' c' v' m', TB W g a' n' c' P1 v' m' O1 → Calls Tryd.prog 28 #[.pointer (some ⟨g, 0, none⟩), .bool false] W (TurnE W g P2 O2)) :
    Calls Tryd.prog 28 #[.pointer (some ⟨g, 0, none⟩), .bool false] w (TurnE w g P2 O2) := by
  obtain ⟨b, off, rfl, hbg, x0, x1, x2, x3, x4⟩ := seesG_first h.sees
  obtain ⟨a', hcut, hse⟩ := seesG_rest h.sees h.len h.cap
  obtain ⟨a0, c0, rfl, -, -, -⟩ := seesC_own h.own
  have hlen := h.len
  simp only [List.length_cons] at hlen
  have hn0 : (0 : Int) < (n : Int) := by omega
  have k0 := h.blk.cell 0
  have k1 := h.blk.cell 1
  have f0 := h.blk.free 0
  have f1 := h.blk.free 1
  simp at k0 k1
  have hgl := h.blk.lt
  have hbl : b < w.heap.size := by omega
  have hbgn : b ≠ g := by omega
  have TT1 := Lib.hid (fun cs => turn_taken h hse cs)
  have B1 := Lib.hid (fun cs => below_allocB (below_set (Below.refl g w) (p := ⟨g, 0, none⟩) (Nat.le_refl _) (.slice a' (n - 1) (c - 1))) (by simp; omega) (.cells cs 38))
  have hvo : Hid (∀ k, (Value.slice a0 m c0).ownBlock = some k → k < w.heap.size) := Lib.hid (fun k hk => (h.own.lt k hk).2)
  have hlen' := Lib.hid hlen
  clear h hse hlen
  have ih1' := Lib.hid ih1
  have ih2' := Lib.hid ih2
  have h3' := Lib.hid h3
  have hgw := Lib.hid hgl
  clear ih1 ih2 h3
  go_enter Tryd.func28, Tryd.ntmps28
  go_upto_region 2 with fail
  obtain ⟨V1, hV1⟩ : ∃ V1, V1 = (w.setCell ⟨g, 0, none⟩ (.slice a' (n - 1) (c - 1))).alloc (.cells #[.int .i64 t0.op, .int .i64 t0.fld, .int .i64 t0.rel, .int .i64 t0.num, .string t0.txt] 38) := ⟨_, rfl⟩
  have TV : Hid (TB V1 g a' (n - 1) (c - 1) R (.slice a0 m c0) m O) := Lib.hid (by rw [hV1]; exact TT1.out _)
  have BV : Hid (Below g w V1) := Lib.hid (by rw [hV1]; exact B1.out _)
  obtain ⟨gt, hgt⟩ : ∃ gt, gt = w.heap.size := ⟨_, rfl⟩
  have HT : Hid (Holds V1 gt 38 #[.int .i64 t0.op, .int .i64 t0.fld, .int .i64 t0.rel, .int .i64 t0.num, .string t0.txt]) := Lib.hid (by
    rw [hV1, hgt]
    have := Holds.new (w.setCell ⟨g, 0, none⟩ (.slice a' (n - 1) (c - 1))) 38 #[.int .i64 t0.op, .int .i64 t0.fld, .int .i64 t0.rel, .int .i64 t0.num, .string t0.txt]
    rwa [show (w.setCell ⟨g, 0, none⟩ (.slice a' (n - 1) (c - 1))).heap.size = w.heap.size by simp] at this)
  have hvg : Hid (some gt ≠ (Value.slice a0 m c0).ownBlock) := Lib.hid (fun e => by have := hvo.out gt e.symm; omega)
  have hgg : g ≠ gt := by omega
  have hglt := Lib.hid (show g < gt by omega)
  rw [← hV1, ← hgt]
  clear hV1 hgt TT1 B1 hvo k0 k1 f0 f1 x0 x1 x2 x3 x4 hcut hgl hbl
  have t0c := HT.out.cell 0
  simp at t0c
  rw [h3'.out] at t0c
  go_wp2
  obtain ⟨i0, z0, hi, hz, h5, h48, hz5⟩ := infoTmZ
  have hall : Hid (TB V1.drew g a' (n - 1) (c - 1) R (.slice a0 m c0) (m) (O) ∧ Holds V1.drew gt 38 #[.int .i64 t0.op, .int .i64 t0.fld, .int .i64 t0.rel, .int .i64 t0.num, .string t0.txt] ∧ Below g w V1.drew) := Lib.hid ⟨tb_drew TV.out, HT.out, BV.out.drew⟩
  have hsz : V1.drew.heap.size = V1.drew.heap.size := rfl
  refine wp_drawn_on (fun W => ∃ u, Holds W g 52 #[.slice a' (n - 1) (c - 1), u]) (by kernel_rfl) (⟨_, TV.out.blk⟩) (fun hHeld => ?_)
  generalize V1.drew = VD at hsz hall hHeld ⊢
  refine wT 0 (v := ?v21) rfl (by kernel_rfl) (fun _ _ _ h => h) ?h21 (by assumption) ?r21
  case h21 => (intro w hSw; (try dsimp only at hSw); go_simp; try with_reducible rfl)
  refine wT 1 (v := ?v22) rfl (by kernel_rfl) (fun _ _ _ h => h) ?h22 (by assumption) ?r22
  case h22 => (intro w hSw; (try dsimp only at hSw); go_simp; try with_reducible rfl)
  refine wT 2 (v := ?v23) rfl (by kernel_rfl) (fun _ _ _ h => h) ?h23 (by assumption) ?r23
  case h23 => (intro w hSw; (try dsimp only at hSw); go_simp; try with_reducible rfl)
  refine wT 3 (v := ?v24) rfl (by kernel_rfl) (fun _ _ _ h => h) ?h24 (by assumption) ?r24
  case h24 => (intro w hSw; (try dsimp only at hSw); go_simp; try with_reducible rfl)
  try simp only [Act.put, List.setIfInBounds_toArray, List.set_cons_zero, List.set_cons_succ]
  refine wpAnyH_ready (rs := [4, 5]) (by kernel_rfl) (by simp) ?_
  refine AllReadyH.cons (o := ⟨_, _, _, _, _, _⟩) rfl (fun K hK => ?_) (AllReadyH.cons (o := ⟨_, _, _, _, _, _⟩) rfl (fun K hK => ?_) AllReadyH.nil)
  · have c4 : (VD).cell? ⟨g, 1, none⟩ = some (.slice a0 m c0) := by first | exact (hbx.out.1.blk).cell 1 | exact hall.out.1.blk.cell 1
    go_simp
    refine hK.out _ _ (hHeld) (fun hHeld => ?_)
    clear hK K
    try simp only [Act.put, List.setIfInBounds_toArray, List.set_cons_zero, List.set_cons_succ]
    refine wpAnyH_ready (rs := [5]) (by kernel_rfl) (by simp) ?_
    refine AllReadyH.cons (o := ⟨_, _, _, _, _, _⟩) rfl (fun K hK => ?_) AllReadyH.nil
    have tc0 : (VD).cell? ⟨gt, 0, none⟩ = some (.int .i64 t0.op) := hall.out.2.1.cell 0
    have tc1 : (VD).cell? ⟨gt, 1, none⟩ = some (.int .i64 t0.fld) := hall.out.2.1.cell 1
    have tc2 : (VD).cell? ⟨gt, 2, none⟩ = some (.int .i64 t0.rel) := hall.out.2.1.cell 2
    have tc3 : (VD).cell? ⟨gt, 3, none⟩ = some (.int .i64 t0.num) := hall.out.2.1.cell 3
    have tc4 : (VD).cell? ⟨gt, 4, none⟩ = some (.string t0.txt) := hall.out.2.1.cell 4
    go_simp
    clear tc0 tc1 tc2 tc3 tc4
    refine hK.out _ _ (hHeld) (fun hHeld => ?_)
    clear hK K
    try simp only [Act.put, List.setIfInBounds_toArray, List.set_cons_zero, List.set_cons_succ]
    refine wpAnyH_ready (rs := [6]) (by kernel_rfl) (by simp) ?_
    refine AllReadyH.cons (o := ⟨_, _, _, _, _, _⟩) rfl (fun K hK => ?_) AllReadyH.nil
    have hx6 : ∃ u, Holds (VD.alloc (.cells #[.int .i64 t0.op, .int .i64 t0.fld, .int .i64 t0.rel, .int .i64 t0.num, .string t0.txt] 38)) g 52 #[.slice a' (n - 1) (c - 1), u] := ⟨_, hall.out.1.blk.alloc _⟩
    have hbx : Hid (TB (VD.alloc (.cells #[.int .i64 t0.op, .int .i64 t0.fld, .int .i64 t0.rel, .int .i64 t0.num, .string t0.txt] 38)) g a' (n - 1) (c - 1) R (.slice a0 m c0) (m) (O) ∧ SeesC (VD.alloc (.cells #[.int .i64 t0.op, .int .i64 t0.fld, .int .i64 t0.rel, .int .i64 t0.num, .string t0.txt] 38)).heap.size (VD.alloc (.cells #[.int .i64 t0.op, .int .i64 t0.fld, .int .i64 t0.rel, .int .i64 t0.num, .string t0.txt] 38)) (some ⟨VD.heap.size, 0, none⟩) (tmC t0) ∧ Below g w (VD.alloc (.cells #[.int .i64 t0.op, .int .i64 t0.fld, .int .i64 t0.rel, .int .i64 t0.num, .string t0.txt] 38))) := Lib.hid ⟨tb_alloc hall.out.1 _, seesC_lit VD 38 #[.int .i64 t0.op, .int .i64 t0.fld, .int .i64 t0.rel, .int .i64 t0.num, .string t0.txt], below_allocB hall.out.2.2 (Nat.le_of_lt hall.out.1.blk.lt) _⟩
    go_simp
    generalize VD.alloc (.cells #[.int .i64 t0.op, .int .i64 t0.fld, .int .i64 t0.rel, .int .i64 t0.num, .string t0.txt] 38) = V6 at *
    generalize VD.heap.size = g6 at *
    refine hK.out _ _ (hx6) (fun hHeld => ?_)
    clear hK K
    try simp only [Act.put, List.setIfInBounds_toArray, List.set_cons_zero, List.set_cons_succ]
    refine wpAnyH_ready (rs := [7]) (by kernel_rfl) (by simp) ?_
    refine AllReadyH.cons (o := ⟨_, _, _, _, _, _⟩) rfl (fun K hK => ?_) AllReadyH.nil
    refine wp_append_cellsB _ (.tmp 60) (.tmp 62) 22 rfl (g + 1) 38 i0 z0 5 48 Tryd.underlying22 hi hz h5 h48 hz5 (by decide) (.slice a0 m c0) (m) (tmcells (O)) hbx.out.1.own (hbx.out.1.blk.lt) _ (some ⟨g6, 0, none⟩) 1 1 (tmC t0) rfl hbx.out.2.1 (fun u hu => tmcells_one (l := [t0]) (by simpa [tmcells] using hu)) rfl rfl (by simp [maxLen]; omega) (by omega) ?_
    intro v7 W7 own7 grow7
    obtain ⟨a7, c7, rfl, -, -, -⟩ := seesC_own own7
    have hx7 : ∃ u, Holds W7 g 52 #[.slice a' (n - 1) (c - 1), u] := ⟨_, holds_grown hbx.out.1.blk grow7 (tb_not hbx.out.1)⟩
    have hend := Lib.hid (tb_told (t := t0) hbx.out.1 own7 grow7)
    have hendB := Lib.hid (tb_told_below (v' := .slice a7 (m + 1) c7) hbx.out.1 hbx.out.2.2 grow7)
    have hH7 := Lib.hid (holds_grown hbx.out.1.blk grow7 (tb_not hbx.out.1))
    clear own7 grow7
    refine hK.out _ _ (hx7) (fun hHeld => ?_)
    clear hK K
    refine wT 8 (v := ?v25) rfl (by kernel_rfl) (fun _ _ _ h => h) ?h25 (by assumption) ?r25
    case h25 => (intro w hSw; (try dsimp only at hSw); go_simp; try with_reducible rfl)
    refine wT 9 (v := ?v26) rfl (by kernel_rfl) (fun _ _ _ h => h) ?h26 (by assumption) ?r26
    case h26 => (intro w hSw; (try dsimp only at hSw); go_simp; try with_reducible rfl)
    try simp only [Act.put, List.setIfInBounds_toArray, List.set_cons_zero, List.set_cons_succ]
    refine wpAnyH_ready (rs := [10]) (by kernel_rfl) (by simp) ?_
    refine AllReadyH.cons (o := ⟨_, _, _, _, _, _⟩) rfl (fun K hK => ?_) AllReadyH.nil
    have c10 := hH7.out.cell 1
    have f10 := hH7.out.free 1
    simp at c10
    go_simp
    refine hK.out _ _ (⟨_, hend.out.blk⟩) (fun hHeld => ?_)
    clear hK K
    try simp only [Act.put, List.setIfInBounds_toArray, List.set_cons_zero, List.set_cons_succ]
    refine wpAnyH_done (by kernel_rfl) ?_ _
    clear hHeld hx6 hx7 hbx hH7 c4 c10 f10
    go_wp2_with fail
    have q := Lib.hid (ih1'.out _ _ _ _ _ _ hend.out)
    have hB2 := Lib.hid hendB.out
    clear hend hendB
    refine q.out.mono ?_
    rintro e u1 ⟨rfl, b1, a2, c2, v2, m2, hT⟩
    have q2 := Lib.hid (ih2'.out _ _ _ _ _ _ hT)
    have hB3 := Lib.hid (hB2.out.trans b1)
    clear b1 hT q hB2
    go_wp2_with fail
    refine q2.out.mono ?_
    rintro e u2 ⟨rfl, b2, a3, c3, v3, m3, hT⟩
    have hf := Lib.hid (And.intro (hB3.out.trans b2) hT)
    clear b2 hT q2 hB3
    go_wp2
    go_end0
    exact ⟨rfl, hf.out.1, _, _, _, _, hf.out.2⟩
  · have tc0 : (VD).cell? ⟨gt, 0, none⟩ = some (.int .i64 t0.op) := hall.out.2.1.cell 0
    have tc1 : (VD).cell? ⟨gt, 1, none⟩ = some (.int .i64 t0.fld) := hall.out.2.1.cell 1
    have tc2 : (VD).cell? ⟨gt, 2, none⟩ = some (.int .i64 t0.rel) := hall.out.2.1.cell 2
    have tc3 : (VD).cell? ⟨gt, 3, none⟩ = some (.int .i64 t0.num) := hall.out.2.1.cell 3
    have tc4 : (VD).cell? ⟨gt, 4, none⟩ = some (.string t0.txt) := hall.out.2.1.cell 4
    go_simp
    clear tc0 tc1 tc2 tc3 tc4
    refine hK.out _ _ (hHeld) (fun hHeld => ?_)
    clear hK K
    try simp only [Act.put, List.setIfInBounds_toArray, List.set_cons_zero, List.set_cons_succ]
    refine wpAnyH_ready (rs := [4, 6]) (by kernel_rfl) (by simp) ?_
    refine AllReadyH.cons (o := ⟨_, _, _, _, _, _⟩) rfl (fun K hK => ?_) (AllReadyH.cons (o := ⟨_, _, _, _, _, _⟩) rfl (fun K hK => ?_) AllReadyH.nil)
    · have c4 : (VD).cell? ⟨g, 1, none⟩ = some (.slice a0 m c0) := by first | exact (hbx.out.1.blk).cell 1 | exact hall.out.1.blk.cell 1
      go_simp
      refine hK.out _ _ (hHeld) (fun hHeld => ?_)
      clear hK K
      try simp only [Act.put, List.setIfInBounds_toArray, List.set_cons_zero, List.set_cons_succ]
      refine wpAnyH_ready (rs := [6]) (by kernel_rfl) (by simp) ?_
      refine AllReadyH.cons (o := ⟨_, _, _, _, _, _⟩) rfl (fun K hK => ?_) AllReadyH.nil
      have hx6 : ∃ u, Holds (VD.alloc (.cells #[.int .i64 t0.op, .int .i64 t0.fld, .int .i64 t0.rel, .int .i64 t0.num, .string t0.txt] 38)) g 52 #[.slice a' (n - 1) (c - 1), u] := ⟨_, hall.out.1.blk.alloc _⟩
      have hbx : Hid (TB (VD.alloc (.cells #[.int .i64 t0.op, .int .i64 t0.fld, .int .i64 t0.rel, .int .i64 t0.num, .string t0.txt] 38)) g a' (n - 1) (c - 1) R (.slice a0 m c0) (m) (O) ∧ SeesC (VD.alloc (.cells #[.int .i64 t0.op, .int .i64 t0.fld, .int .i64 t0.rel, .int .i64 t0.num, .string t0.txt] 38)).heap.size (VD.alloc (.cells #[.int .i64 t0.op, .int .i64 t0.fld, .int .i64 t0.rel, .int .i64 t0.num, .string t0.txt] 38)) (some ⟨VD.heap.size, 0, none⟩) (tmC t0) ∧ Below g w (VD.alloc (.cells #[.int .i64 t0.op, .int .i64 t0.fld, .int .i64 t0.rel, .int .i64 t0.num, .string t0.txt] 38))) := Lib.hid ⟨tb_alloc hall.out.1 _, seesC_lit VD 38 #[.int .i64 t0.op, .int .i64 t0.fld, .int .i64 t0.rel, .int .i64 t0.num, .string t0.txt], below_allocB hall.out.2.2 (Nat.le_of_lt hall.out.1.blk.lt) _⟩
      go_simp
      generalize VD.alloc (.cells #[.int .i64 t0.op, .int .i64 t0.fld, .int .i64 t0.rel, .int .i64 t0.num, .string t0.txt] 38) = V6 at *
      generalize VD.heap.size = g6 at *
      refine hK.out _ _ (hx6) (fun hHeld => ?_)
      clear hK K
      try simp only [Act.put, List.setIfInBounds_toArray, List.set_cons_zero, List.set_cons_succ]
      refine wpAnyH_ready (rs := [7]) (by kernel_rfl) (by simp) ?_
      refine AllReadyH.cons (o := ⟨_, _, _, _, _, _⟩) rfl (fun K hK => ?_) AllReadyH.nil
      refine wp_append_cellsB _ (.tmp 60) (.tmp 62) 22 rfl (g + 1) 38 i0 z0 5 48 Tryd.underlying22 hi hz h5 h48 hz5 (by decide) (.slice a0 m c0) (m) (tmcells (O)) hbx.out.1.own (hbx.out.1.blk.lt) _ (some ⟨g6, 0, none⟩) 1 1 (tmC t0) rfl hbx.out.2.1 (fun u hu => tmcells_one (l := [t0]) (by simpa [tmcells] using hu)) rfl rfl (by simp [maxLen]; omega) (by omega) ?_
      intro v7 W7 own7 grow7
      obtain ⟨a7, c7, rfl, -, -, -⟩ := seesC_own own7
      have hx7 : ∃ u, Holds W7 g 52 #[.slice a' (n - 1) (c - 1), u] := ⟨_, holds_grown hbx.out.1.blk grow7 (tb_not hbx.out.1)⟩
      have hend := Lib.hid (tb_told (t := t0) hbx.out.1 own7 grow7)
      have hendB := Lib.hid (tb_told_below (v' := .slice a7 (m + 1) c7) hbx.out.1 hbx.out.2.2 grow7)
      have hH7 := Lib.hid (holds_grown hbx.out.1.blk grow7 (tb_not hbx.out.1))
      clear own7 grow7
      refine hK.out _ _ (hx7) (fun hHeld => ?_)
      clear hK K
      refine wT 8 (v := ?v27) rfl (by kernel_rfl) (fun _ _ _ h => h) ?h27 (by assumption) ?r27
      case h27 => (intro w hSw; (try dsimp only at hSw); go_simp; try with_reducible rfl)
      refine wT 9 (v := ?v28) rfl (by kernel_rfl) (fun _ _ _ h => h) ?h28 (by assumption) ?r28
      case h28 => (intro w hSw; (try dsimp only at hSw); go_simp; try with_reducible rfl)
      try simp only [Act.put, List.setIfInBounds_toArray, List.set_cons_zero, List.set_cons_succ]
      refine wpAnyH_ready (rs := [10]) (by kernel_rfl) (by simp) ?_
      refine AllReadyH.cons (o := ⟨_, _, _, _, _, _⟩) rfl (fun K hK => ?_) AllReadyH.nil
      have c10 := hH7.out.cell 1
      have f10 := hH7.out.free 1
      simp at c10
      go_simp
      refine hK.out _ _ (⟨_, hend.out.blk⟩) (fun hHeld => ?_)
      clear hK K
      try simp only [Act.put, List.setIfInBounds_toArray, List.set_cons_zero, List.set_cons_succ]
      refine wpAnyH_done (by kernel_rfl) ?_ _
      clear hHeld hx6 hx7 hbx hH7 c4 c10 f10
      go_wp2_with fail
      have q := Lib.hid (ih1'.out _ _ _ _ _ _ hend.out)
      have hB2 := Lib.hid hendB.out
      clear hend hendB
      refine q.out.mono ?_
      rintro e u1 ⟨rfl, b1, a2, c2, v2, m2, hT⟩
      have q2 := Lib.hid (ih2'.out _ _ _ _ _ _ hT)
      have hB3 := Lib.hid (hB2.out.trans b1)
      clear b1 hT q hB2
      go_wp2_with fail
      refine q2.out.mono ?_
      rintro e u2 ⟨rfl, b2, a3, c3, v3, m3, hT⟩
      have hf := Lib.hid (And.intro (hB3.out.trans b2) hT)
      clear b2 hT q2 hB3
      go_wp2
      go_end0
      exact ⟨rfl, hf.out.1, _, _, _, _, hf.out.2⟩
    · have hx6 : ∃ u, Holds (VD.alloc (.cells #[.int .i64 t0.op, .int .i64 t0.fld, .int .i64 t0.rel, .int .i64 t0.num, .string t0.txt] 38)) g 52 #[.slice a' (n - 1) (c - 1), u] := ⟨_, hall.out.1.blk.alloc _⟩
      have hbx : Hid (TB (VD.alloc (.cells #[.int .i64 t0.op, .int .i64 t0.fld, .int .i64 t0.rel, .int .i64 t0.num, .string t0.txt] 38)) g a' (n - 1) (c - 1) R (.slice a0 m c0) (m) (O) ∧ SeesC (VD.alloc (.cells #[.int .i64 t0.op, .int .i64 t0.fld, .int .i64 t0.rel, .int .i64 t0.num, .string t0.txt] 38)).heap.size (VD.alloc (.cells #[.int .i64 t0.op, .int .i64 t0.fld, .int .i64 t0.rel, .int .i64 t0.num, .string t0.txt] 38)) (some ⟨VD.heap.size, 0, none⟩) (tmC t0) ∧ Below g w (VD.alloc (.cells #[.int .i64 t0.op, .int .i64 t0.fld, .int .i64 t0.rel, .int .i64 t0.num, .string t0.txt] 38))) := Lib.hid ⟨tb_alloc hall.out.1 _, seesC_lit VD 38 #[.int .i64 t0.op, .int .i64 t0.fld, .int .i64 t0.rel, .int .i64 t0.num, .string t0.txt], below_allocB hall.out.2.2 (Nat.le_of_lt hall.out.1.blk.lt) _⟩
      go_simp
      generalize VD.alloc (.cells #[.int .i64 t0.op, .int .i64 t0.fld, .int .i64 t0.rel, .int .i64 t0.num, .string t0.txt] 38) = V6 at *
      generalize VD.heap.size = g6 at *
      refine hK.out _ _ (hx6) (fun hHeld => ?_)
      clear hK K
      try simp only [Act.put, List.setIfInBounds_toArray, List.set_cons_zero, List.set_cons_succ]
      refine wpAnyH_ready (rs := [4]) (by kernel_rfl) (by simp) ?_
      refine AllReadyH.cons (o := ⟨_, _, _, _, _, _⟩) rfl (fun K hK => ?_) AllReadyH.nil
      have c4 : (V6).cell? ⟨g, 1, none⟩ = some (.slice a0 m c0) := by first | exact (hbx.out.1.blk).cell 1 | exact hall.out.1.blk.cell 1
      go_simp
      refine hK.out _ _ (hHeld) (fun hHeld => ?_)
      clear hK K
      try simp only [Act.put, List.setIfInBounds_toArray, List.set_cons_zero, List.set_cons_succ]
      refine wpAnyH_ready (rs := [7]) (by kernel_rfl) (by simp) ?_
      refine AllReadyH.cons (o := ⟨_, _, _, _, _, _⟩) rfl (fun K hK => ?_) AllReadyH.nil
      refine wp_append_cellsB _ (.tmp 60) (.tmp 62) 22 rfl (g + 1) 38 i0 z0 5 48 Tryd.underlying22 hi hz h5 h48 hz5 (by decide) (.slice a0 m c0) (m) (tmcells (O)) hbx.out.1.own (hbx.out.1.blk.lt) _ (some ⟨g6, 0, none⟩) 1 1 (tmC t0) rfl hbx.out.2.1 (fun u hu => tmcells_one (l := [t0]) (by simpa [tmcells] using hu)) rfl rfl (by simp [maxLen]; omega) (by omega) ?_
      intro v7 W7 own7 grow7
      obtain ⟨a7, c7, rfl, -, -, -⟩ := seesC_own own7
      have hx7 : ∃ u, Holds W7 g 52 #[.slice a' (n - 1) (c - 1), u] := ⟨_, holds_grown hbx.out.1.blk grow7 (tb_not hbx.out.1)⟩
      have hend := Lib.hid (tb_told (t := t0) hbx.out.1 own7 grow7)
      have hendB := Lib.hid (tb_told_below (v' := .slice a7 (m + 1) c7) hbx.out.1 hbx.out.2.2 grow7)
      have hH7 := Lib.hid (holds_grown hbx.out.1.blk grow7 (tb_not hbx.out.1))
      clear own7 grow7
      refine hK.out _ _ (hx7) (fun hHeld => ?_)
      clear hK K
      refine wT 8 (v := ?v29) rfl (by kernel_rfl) (fun _ _ _ h => h) ?h29 (by assumption) ?r29
      case h29 => (intro w hSw; (try dsimp only at hSw); go_simp; try with_reducible rfl)
      refine wT 9 (v := ?v30) rfl (by kernel_rfl) (fun _ _ _ h => h) ?h30 (by assumption) ?r30
      case h30 => (intro w hSw; (try dsimp only at hSw); go_simp; try with_reducible rfl)
      try simp only [Act.put, List.setIfInBounds_toArray, List.set_cons_zero, List.set_cons_succ]
      refine wpAnyH_ready (rs := [10]) (by kernel_rfl) (by simp) ?_
      refine AllReadyH.cons (o := ⟨_, _, _, _, _, _⟩) rfl (fun K hK => ?_) AllReadyH.nil
      have c10 := hH7.out.cell 1
      have f10 := hH7.out.free 1
      simp at c10
      go_simp
      refine hK.out _ _ (⟨_, hend.out.blk⟩) (fun hHeld => ?_)
      clear hK K
      try simp only [Act.put, List.setIfInBounds_toArray, List.set_cons_zero, List.set_cons_succ]
      refine wpAnyH_done (by kernel_rfl) ?_ _
      clear hHeld hx6 hx7 hbx hH7 c4 c10 f10
      go_wp2_with fail
      have q := Lib.hid (ih1'.out _ _ _ _ _ _ hend.out)
      have hB2 := Lib.hid hendB.out
      clear hend hendB
      refine q.out.mono ?_
      rintro e u1 ⟨rfl, b1, a2, c2, v2, m2, hT⟩
      have q2 := Lib.hid (ih2'.out _ _ _ _ _ _ hT)
      have hB3 := Lib.hid (hB2.out.trans b1)
      clear b1 hT q hB2
      go_wp2_with fail
      refine q2.out.mono ?_
      rintro e u2 ⟨rfl, b2, a3, c3, v3, m3, hT⟩
      have hf := Lib.hid (And.intro (hB3.out.trans b2) hT)
      clear b2 hT q2 hB3
      go_wp2
      go_end0
      exact ⟨rfl, hf.out.1, _, _, _, _, hf.out.2⟩
set_option maxRecDepth 100000 in
set_option maxHeartbeats 8000000 in
theorem turn_f5 (w : World) (g : Nat) (a : Option Addr) (n c : Nat) (t0 : TmD) (R : List TmD) (v : Value) (m : Nat) (O : List TmD) (P1 O1 P2 O2 : List TmD) (h : TB w g a n c (t0 :: R) v m O) (h3 : t0.op = 5) (hm : m ≤ 100000)
    (ih1 : ∀ W a' n' c' v' m', TB W g a' n' c' R v' m' (O ++ [t0]) → Calls Tryd.prog 28 #[.pointer (some ⟨g, 0, none⟩), .bool false] W (TurnE W g P1 O1))
    (ih2 : ∀ W a' n' c' v' m', TB W g a' n' c' P1 v' m' O1 → Calls Tryd.prog 28 #[.pointer (some ⟨g, 0, none⟩), .bool false] W (TurnE W g P2 O2)) :
    Calls Tryd.prog 28 #[.pointer (some ⟨g, 0, none⟩), .bool false] w (TurnE w g P2 O2) := by
  obtain ⟨b, off, rfl, hbg, x0, x1, x2, x3, x4⟩ := seesG_first h.sees
  obtain ⟨a', hcut, hse⟩ := seesG_rest h.sees h.len h.cap
  obtain ⟨a0, c0, rfl, -, -, -⟩ := seesC_own h.own
  have hlen := h.len
  simp only [List.length_cons] at hlen
  have hn0 : (0 : Int) < (n : Int) := by omega
  have k0 := h.blk.cell 0
  have k1 := h.blk.cell 1
  have f0 := h.blk.free 0
  have f1 := h.blk.free 1
  simp at k0 k1
  have hgl := h.blk.lt
  have hbl : b < w.heap.size := by omega
  have hbgn : b ≠ g := by omega
  have TT1 := Lib.hid (fun cs => turn_taken h hse cs)
  have B1 := Lib.hid (fun cs => below_allocB (below_set (Below.refl g w) (p := ⟨g, 0, none⟩) (Nat.le_refl _) (.slice a' (n - 1) (c - 1))) (by simp; omega) (.cells cs 38))
  have hvo : Hid (∀ k, (Value.slice a0 m c0).ownBlock = some k → k < w.heap.size) := Lib.hid (fun k hk => (h.own.lt k hk).2)
  have hlen' := Lib.hid hlen
  clear h hse hlen
  have ih1' := Lib.hid ih1
  have ih2' := Lib.hid ih2
  have h3' := Lib.hid h3
  have hgw := Lib.hid hgl
  clear ih1 ih2 h3
  go_enter Tryd.func28, Tryd.ntmps28
  go_upto_region 2 with fail
  obtain ⟨V1, hV1⟩ : ∃ V1, V1 = (w.setCell ⟨g, 0, none⟩ (.slice a' (n - 1) (c - 1))).alloc (.cells #[.int .i64 t0.op, .int .i64 t0.fld, .int .i64 t0.rel, .int .i64 t0.num, .string t0.txt] 38) := ⟨_, rfl⟩
  have TV : Hid (TB V1 g a' (n - 1) (c - 1) R (.slice a0 m c0) m O) := Lib.hid (by rw [hV1]; exact TT1.out _)
  have BV : Hid (Below g w V1) := Lib.hid (by rw [hV1]; exact B1.out _)
  obtain ⟨gt, hgt⟩ : ∃ gt, gt = w.heap.size := ⟨_, rfl⟩
  have HT : Hid (Holds V1 gt 38 #[.int .i64 t0.op, .int .i64 t0.fld, .int .i64 t0.rel, .int .i64 t0.num, .string t0.txt]) := Lib.hid (by
    rw [hV1, hgt]
    have := Holds.new (w.setCell ⟨g, 0, none⟩ (.slice a' (n - 1) (c - 1))) 38 #[.int .i64 t0.op, .int .i64 t0.fld, .int .i64 t0.rel, .int .i64 t0.num, .string t0.txt]
    rwa [show (w.setCell ⟨g, 0, none⟩ (.slice a' (n - 1) (c - 1))).heap.size = w.heap.size by simp] at this)
  have hvg : Hid (some gt ≠ (Value.slice a0 m c0).ownBlock) := Lib.hid (fun e => by have := hvo.out gt e.symm; omega)
  have hgg : g ≠ gt := by omega
  have hglt := Lib.hid (show g < gt by omega)
  rw [← hV1, ← hgt]
  clear hV1 hgt TT1 B1 hvo k0 k1 f0 f1 x0 x1 x2 x3 x4 hcut hgl hbl
  have t0c := HT.out.cell 0
  simp at t0c
  rw [h3'.out] at t0c
  go_wp2
  obtain ⟨i0, z0, hi, hz, h5, h48, hz5⟩ := infoTmZ
  have hall : Hid (TB V1.drew g a' (n - 1) (c - 1) R (.slice a0 m c0) (m) (O) ∧ Holds V1.drew gt 38 #[.int .i64 t0.op, .int .i64 t0.fld, .int .i64 t0.rel, .int .i64 t0.num, .string t0.txt] ∧ Below g w V1.drew) := Lib.hid ⟨tb_drew TV.out, HT.out, BV.out.drew⟩
  have hsz : V1.drew.heap.size = V1.drew.heap.size := rfl
  refine wp_drawn_on (fun W => ∃ u, Holds W g 52 #[.slice a' (n - 1) (c - 1), u]) (by kernel_rfl) (⟨_, TV.out.blk⟩) (fun hHeld => ?_)
  generalize V1.drew = VD at hsz hall hHeld ⊢
  refine wT 0 (v := ?v31) rfl (by kernel_rfl) (fun _ _ _ h => h) ?h31 (by assumption) ?r31
  case h31 => (intro w hSw; (try dsimp only at hSw); go_simp; try with_reducible rfl)
  refine wT 1 (v := ?v32) rfl (by kernel_rfl) (fun _ _ _ h => h) ?h32 (by assumption) ?r32
  case h32 => (intro w hSw; (try dsimp only at hSw); go_simp; try with_reducible rfl)
  refine wT 2 (v := ?v33) rfl (by kernel_rfl) (fun _ _ _ h => h) ?h33 (by assumption) ?r33
  case h33 => (intro w hSw; (try dsimp only at hSw); go_simp; try with_reducible rfl)
  refine wT 3 (v := ?v34) rfl (by kernel_rfl) (fun _ _ _ h => h) ?h34 (by assumption) ?r34
  case h34 => (intro w hSw; (try dsimp only at hSw); go_simp; try with_reducible rfl)
  try simp only [Act.put, List.setIfInBounds_toArray, List.set_cons_zero, List.set_cons_succ]
  refine wpAnyH_ready (rs := [4, 5]) (by kernel_rfl) (by simp) ?_
  refine AllReadyH.cons (o := ⟨_, _, _, _, _, _⟩) rfl (fun K hK => ?_) (AllReadyH.cons (o := ⟨_, _, _, _, _, _⟩) rfl (fun K hK => ?_) AllReadyH.nil)
  · have c4 : (VD).cell? ⟨g, 1, none⟩ = some (.slice a0 m c0) := by first | exact (hbx.out.1.blk).cell 1 | exact hall.out.1.blk.cell 1
    go_simp
    refine hK.out _ _ (hHeld) (fun hHeld => ?_)
    clear hK K
    try simp only [Act.put, List.setIfInBounds_toArray, List.set_cons_zero, List.set_cons_succ]
    refine wpAnyH_ready (rs := [5]) (by kernel_rfl) (by simp) ?_
    refine AllReadyH.cons (o := ⟨_, _, _, _, _, _⟩) rfl (fun K hK => ?_) AllReadyH.nil
    have tc0 : (VD).cell? ⟨gt, 0, none⟩ = some (.int .i64 t0.op) := hall.out.2.1.cell 0
    have tc1 : (VD).cell? ⟨gt, 1, none⟩ = some (.int .i64 t0.fld) := hall.out.2.1.cell 1
    have tc2 : (VD).cell? ⟨gt, 2, none⟩ = some (.int .i64 t0.rel) := hall.out.2.1.cell 2
    have tc3 : (VD).cell? ⟨gt, 3, none⟩ = some (.int .i64 t0.num) := hall.out.2.1.cell 3
    have tc4 : (VD).cell? ⟨gt, 4, none⟩ = some (.string t0.txt) := hall.out.2.1.cell 4
    go_simp
    clear tc0 tc1 tc2 tc3 tc4
    refine hK.out _ _ (hHeld) (fun hHeld => ?_)
    clear hK K
    try simp only [Act.put, List.setIfInBounds_toArray, List.set_cons_zero, List.set_cons_succ]
    refine wpAnyH_ready (rs := [6]) (by kernel_rfl) (by simp) ?_
    refine AllReadyH.cons (o := ⟨_, _, _, _, _, _⟩) rfl (fun K hK => ?_) AllReadyH.nil
    have hx6 : ∃ u, Holds (VD.alloc (.cells #[.int .i64 t0.op, .int .i64 t0.fld, .int .i64 t0.rel, .int .i64 t0.num, .string t0.txt] 38)) g 52 #[.slice a' (n - 1) (c - 1), u] := ⟨_, hall.out.1.blk.alloc _⟩
    have hbx : Hid (TB (VD.alloc (.cells #[.int .i64 t0.op, .int .i64 t0.fld, .int .i64 t0.rel, .int .i64 t0.num, .string t0.txt] 38)) g a' (n - 1) (c - 1) R (.slice a0 m c0) (m) (O) ∧ SeesC (VD.alloc (.cells #[.int .i64 t0.op, .int .i64 t0.fld, .int .i64 t0.rel, .int .i64 t0.num, .string t0.txt] 38)).heap.size (VD.alloc (.cells #[.int .i64 t0.op, .int .i64 t0.fld, .int .i64 t0.rel, .int .i64 t0.num, .string t0.txt] 38)) (some ⟨VD.heap.size, 0, none⟩) (tmC t0) ∧ Below g w (VD.alloc (.cells #[.int .i64 t0.op, .int .i64 t0.fld, .int .i64 t0.rel, .int .i64 t0.num, .string t0.txt] 38))) := Lib.hid ⟨tb_alloc hall.out.1 _, seesC_lit VD 38 #[.int .i64 t0.op, .int .i64 t0.fld, .int .i64 t0.rel, .int .i64 t0.num, .string t0.txt], below_allocB hall.out.2.2 (Nat.le_of_lt hall.out.1.blk.lt) _⟩
    go_simp
    generalize VD.alloc (.cells #[.int .i64 t0.op, .int .i64 t0.fld, .int .i64 t0.rel, .int .i64 t0.num, .string t0.txt] 38) = V6 at *
    generalize VD.heap.size = g6 at *
    refine hK.out _ _ (hx6) (fun hHeld => ?_)
    clear hK K
    try simp only [Act.put, List.setIfInBounds_toArray, List.set_cons_zero, List.set_cons_succ]
    refine wpAnyH_ready (rs := [7]) (by kernel_rfl) (by simp) ?_
    refine AllReadyH.cons (o := ⟨_, _, _, _, _, _⟩) rfl (fun K hK => ?_) AllReadyH.nil
    refine wp_append_cellsB _ (.tmp 60) (.tmp 62) 22 rfl (g + 1) 38 i0 z0 5 48 Tryd.underlying22 hi hz h5 h48 hz5 (by decide) (.slice a0 m c0) (m) (tmcells (O)) hbx.out.1.own (hbx.out.1.blk.lt) _ (some ⟨g6, 0, none⟩) 1 1 (tmC t0) rfl hbx.out.2.1 (fun u hu => tmcells_one (l := [t0]) (by simpa [tmcells] using hu)) rfl rfl (by simp [maxLen]; omega) (by omega) ?_
    intro v7 W7 own7 grow7
    obtain ⟨a7, c7, rfl, -, -, -⟩ := seesC_own own7
    have hx7 : ∃ u, Holds W7 g 52 #[.slice a' (n - 1) (c - 1), u] := ⟨_, holds_grown hbx.out.1.blk grow7 (tb_not hbx.out.1)⟩
    have hend := Lib.hid (tb_told (t := t0) hbx.out.1 own7 grow7)
    have hendB := Lib.hid (tb_told_below (v' := .slice a7 (m + 1) c7) hbx.out.1 hbx.out.2.2 grow7)
    have hH7 := Lib.hid (holds_grown hbx.out.1.blk grow7 (tb_not hbx.out.1))
    clear own7 grow7
    refine hK.out _ _ (hx7) (fun hHeld => ?_)
    clear hK K
    refine wT 8 (v := ?v35) rfl (by kernel_rfl) (fun _ _ _ h => h) ?h35 (by assumption) ?r35
    case h35 => (intro w hSw; (try dsimp only at hSw); go_simp; try with_reducible rfl)
    refine wT 9 (v := ?v36) rfl (by kernel_rfl) (fun _ _ _ h => h) ?h36 (by assumption) ?r36
    case h36 => (intro w hSw; (try dsimp only at hSw); go_simp; try with_reducible rfl)
    try simp only [Act.put, List.setIfInBounds_toArray, List.set_cons_zero, List.set_cons_succ]
    refine wpAnyH_ready (rs := [10]) (by kernel_rfl) (by simp) ?_
    refine AllReadyH.cons (o := ⟨_, _, _, _, _, _⟩) rfl (fun K hK => ?_) AllReadyH.nil
    have c10 := hH7.out.cell 1
    have f10 := hH7.out.free 1
    simp at c10
    go_simp
    refine hK.out _ _ (⟨_, hend.out.blk⟩) (fun hHeld => ?_)
    clear hK K
    try simp only [Act.put, List.setIfInBounds_toArray, List.set_cons_zero, List.set_cons_succ]
    refine wpAnyH_done (by kernel_rfl) ?_ _
    clear hHeld hx6 hx7 hbx hH7 c4 c10 f10
    go_wp2_with fail
    have q := Lib.hid (ih1'.out _ _ _ _ _ _ hend.out)
    have hB2 := Lib.hid hendB.out
    clear hend hendB
    refine q.out.mono ?_
    rintro e u1 ⟨rfl, b1, a2, c2, v2, m2, hT⟩
    have q2 := Lib.hid (ih2'.out _ _ _ _ _ _ hT)
    have hB3 := Lib.hid (hB2.out.trans b1)
    clear b1 hT q hB2
    go_wp2_with fail
    refine q2.out.mono ?_
    rintro e u2 ⟨rfl, b2, a3, c3, v3, m3, hT⟩
    have hf := Lib.hid (And.intro (hB3.out.trans b2) hT)
    clear b2 hT q2 hB3
    go_wp2
    go_end0
    exact ⟨rfl, hf.out.1, _, _, _, _, hf.out.2⟩
  · have tc0 : (VD).cell? ⟨gt, 0, none⟩ = some (.int .i64 t0.op) := hall.out.2.1.cell 0
    have tc1 : (VD).cell? ⟨gt, 1, none⟩ = some (.int .i64 t0.fld) := hall.out.2.1.cell 1
    have tc2 : (VD).cell? ⟨gt, 2, none⟩ = some (.int .i64 t0.rel) := hall.out.2.1.cell 2
    have tc3 : (VD).cell? ⟨gt, 3, none⟩ = some (.int .i64 t0.num) := hall.out.2.1.cell 3
    have tc4 : (VD).cell? ⟨gt, 4, none⟩ = some (.string t0.txt) := hall.out.2.1.cell 4
    go_simp
    clear tc0 tc1 tc2 tc3 tc4
    refine hK.out _ _ (hHeld) (fun hHeld => ?_)
    clear hK K
    try simp only [Act.put, List.setIfInBounds_toArray, List.set_cons_zero, List.set_cons_succ]
    refine wpAnyH_ready (rs := [4, 6]) (by kernel_rfl) (by simp) ?_
    refine AllReadyH.cons (o := ⟨_, _, _, _, _, _⟩) rfl (fun K hK => ?_) (AllReadyH.cons (o := ⟨_, _, _, _, _, _⟩) rfl (fun K hK => ?_) AllReadyH.nil)
    · have c4 : (VD).cell? ⟨g, 1, none⟩ = some (.slice a0 m c0) := by first | exact (hbx.out.1.blk).cell 1 | exact hall.out.1.blk.cell 1
      go_simp
      refine hK.out _ _ (hHeld) (fun hHeld => ?_)
      clear hK K
      try simp only [Act.put, List.setIfInBounds_toArray, List.set_cons_zero, List.set_cons_succ]
      refine wpAnyH_ready (rs := [6]) (by kernel_rfl) (by simp) ?_
      refine AllReadyH.cons (o := ⟨_, _, _, _, _, _⟩) rfl (fun K hK => ?_) AllReadyH.nil
      have hx6 : ∃ u, Holds (VD.alloc (.cells #[.int .i64 t0.op, .int .i64 t0.fld, .int .i64 t0.rel, .int .i64 t0.num, .string t0.txt] 38)) g 52 #[.slice a' (n - 1) (c - 1), u] := ⟨_, hall.out.1.blk.alloc _⟩
      have hbx : Hid (TB (VD.alloc (.cells #[.int .i64 t0.op, .int .i64 t0.fld, .int .i64 t0.rel, .int .i64 t0.num, .string t0.txt] 38)) g a' (n - 1) (c - 1) R (.slice a0 m c0) (m) (O) ∧ SeesC (VD.alloc (.cells #[.int .i64 t0.op, .int .i64 t0.fld, .int .i64 t0.rel, .int .i64 t0.num, .string t0.txt] 38)).heap.size (VD.alloc (.cells #[.int .i64 t0.op, .int .i64 t0.fld, .int .i64 t0.rel, .int .i64 t0.num, .string t0.txt] 38)) (some ⟨VD.heap.size, 0, none⟩) (tmC t0) ∧ Below g w (VD.alloc (.cells #[.int .i64 t0.op, .int .i64 t0.fld, .int .i64 t0.rel, .int .i64 t0.num, .string t0.txt] 38))) := Lib.hid ⟨tb_alloc hall.out.1 _, seesC_lit VD 38 #[.int .i64 t0.op, .int .i64 t0.fld, .int .i64 t0.rel, .int .i64 t0.num, .string t0.txt], below_allocB hall.out.2.2 (Nat.le_of_lt hall.out.1.blk.lt) _⟩
      go_simp
      generalize VD.alloc (.cells #[.int .i64 t0.op, .int .i64 t0.fld, .int .i64 t0.rel, .int .i64 t0.num, .string t0.txt] 38) = V6 at *
      generalize VD.heap.size = g6 at *
      refine hK.out _ _ (hx6) (fun hHeld => ?_)
      clear hK K
      try simp only [Act.put, List.setIfInBounds_toArray, List.set_cons_zero, List.set_cons_succ]
      refine wpAnyH_ready (rs := [7]) (by kernel_rfl) (by simp) ?_
      refine AllReadyH.cons (o := ⟨_, _, _, _, _, _⟩) rfl (fun K hK => ?_) AllReadyH.nil
      refine wp_append_cellsB _ (.tmp 60) (.tmp 62) 22 rfl (g + 1) 38 i0 z0 5 48 Tryd.underlying22 hi hz h5 h48 hz5 (by decide) (.slice a0 m c0) (m) (tmcells (O)) hbx.out.1.own (hbx.out.1.blk.lt) _ (some ⟨g6, 0, none⟩) 1 1 (tmC t0) rfl hbx.out.2.1 (fun u hu => tmcells_one (l := [t0]) (by simpa [tmcells] using hu)) rfl rfl (by simp [maxLen]; omega) (by omega) ?_
      intro v7 W7 own7 grow7
      obtain ⟨a7, c7, rfl, -, -, -⟩ := seesC_own own7
      have hx7 : ∃ u, Holds W7 g 52 #[.slice a' (n - 1) (c - 1), u] := ⟨_, holds_grown hbx.out.1.blk grow7 (tb_not hbx.out.1)⟩
      have hend := Lib.hid (tb_told (t := t0) hbx.out.1 own7 grow7)
      have hendB := Lib.hid (tb_told_below (v' := .slice a7 (m + 1) c7) hbx.out.1 hbx.out.2.2 grow7)
      have hH7 := Lib.hid (holds_grown hbx.out.1.blk grow7 (tb_not hbx.out.1))
      clear own7 grow7
      refine hK.out _ _ (hx7) (fun hHeld => ?_)
      clear hK K
      refine wT 8 (v := ?v37) rfl (by kernel_rfl) (fun _ _ _ h => h) ?h37 (by assumption) ?r37
      case h37 => (intro w hSw; (try dsimp only at hSw); go_simp; try with_reducible rfl)
      refine wT 9 (v := ?v38) rfl (by kernel_rfl) (fun _ _ _ h => h) ?h38 (by assumption) ?r38
      case h38 => (intro w hSw; (try dsimp only at hSw); go_simp; try with_reducible rfl)
      try simp only [Act.put, List.setIfInBounds_toArray, List.set_cons_zero, List.set_cons_succ]
      refine wpAnyH_ready (rs := [10]) (by kernel_rfl) (by simp) ?_
      refine AllReadyH.cons (o := ⟨_, _, _, _, _, _⟩) rfl (fun K hK => ?_) AllReadyH.nil
      have c10 := hH7.out.cell 1
      have f10 := hH7.out.free 1
      simp at c10
      go_simp
      refine hK.out _ _ (⟨_, hend.out.blk⟩) (fun hHeld => ?_)
      clear hK K
      try simp only [Act.put, List.setIfInBounds_toArray, List.set_cons_zero, List.set_cons_succ]
      refine wpAnyH_done (by kernel_rfl) ?_ _
      clear hHeld hx6 hx7 hbx hH7 c4 c10 f10
      go_wp2_with fail
      have q := Lib.hid (ih1'.out _ _ _ _ _ _ hend.out)
      have hB2 := Lib.hid hendB.out
      clear hend hendB
      refine q.out.mono ?_
      rintro e u1 ⟨rfl, b1, a2, c2, v2, m2, hT⟩
      have q2 := Lib.hid (ih2'.out _ _ _ _ _ _ hT)
      have hB3 := Lib.hid (hB2.out.trans b1)
      clear b1 hT q hB2
      go_wp2_with fail
      refine q2.out.mono ?_
      rintro e u2 ⟨rfl, b2, a3, c3, v3, m3, hT⟩
      have hf := Lib.hid (And.intro (hB3.out.trans b2) hT)
      clear b2 hT q2 hB3
      go_wp2
      go_end0
      exact ⟨rfl, hf.out.1, _, _, _, _, hf.out.2⟩
    · have hx6 : ∃ u, Holds (VD.alloc (.cells #[.int .i64 t0.op, .int .i64 t0.fld, .int .i64 t0.rel, .int .i64 t0.num, .string t0.txt] 38)) g 52 #[.slice a' (n - 1) (c - 1), u] := ⟨_, hall.out.1.blk.alloc _⟩
      have hbx : Hid (TB (VD.alloc (.cells #[.int .i64 t0.op, .int .i64 t0.fld, .int .i64 t0.rel, .int .i64 t0.num, .string t0.txt] 38)) g a' (n - 1) (c - 1) R (.slice a0 m c0) (m) (O) ∧ SeesC (VD.alloc (.cells #[.int .i64 t0.op, .int .i64 t0.fld, .int .i64 t0.rel, .int .i64 t0.num, .string t0.txt] 38)).heap.size (VD.alloc (.cells #[.int .i64 t0.op, .int .i64 t0.fld, .int .i64 t0.rel, .int .i64 t0.num, .string t0.txt] 38)) (some ⟨VD.heap.size, 0, none⟩) (tmC t0) ∧ Below g w (VD.alloc (.cells #[.int .i64 t0.op, .int .i64 t0.fld, .int .i64 t0.rel, .int .i64 t0.num, .string t0.txt] 38))) := Lib.hid ⟨tb_alloc hall.out.1 _, seesC_lit VD 38 #[.int .i64 t0.op, .int .i64 t0.fld, .int .i64 t0.rel, .int .i64 t0.num, .string t0.txt], below_allocB hall.out.2.2 (Nat.le_of_lt hall.out.1.blk.lt) _⟩
      go_simp
      generalize VD.alloc (.cells #[.int .i64 t0.op, .int .i64 t0.fld, .int .i64 t0.rel, .int .i64 t0.num, .string t0.txt] 38) = V6 at *
      generalize VD.heap.size = g6 at *
      refine hK.out _ _ (hx6) (fun hHeld => ?_)
      clear hK K
      try simp only [Act.put, List.setIfInBounds_toArray, List.set_cons_zero, List.set_cons_succ]
      refine wpAnyH_ready (rs := [4]) (by kernel_rfl) (by simp) ?_
      refine AllReadyH.cons (o := ⟨_, _, _, _, _, _⟩) rfl (fun K hK => ?_) AllReadyH.nil
      have c4 : (V6).cell? ⟨g, 1, none⟩ = some (.slice a0 m c0) := by first | exact (hbx.out.1.blk).cell 1 | exact hall.out.1.blk.cell 1
      go_simp
      refine hK.out _ _ (hHeld) (fun hHeld => ?_)
      clear hK K
      try simp only [Act.put, List.setIfInBounds_toArray, List.set_cons_zero, List.set_cons_succ]
      refine wpAnyH_ready (rs := [7]) (by kernel_rfl) (by simp) ?_
      refine AllReadyH.cons (o := ⟨_, _, _, _, _, _⟩) rfl (fun K hK => ?_) AllReadyH.nil
      refine wp_append_cellsB _ (.tmp 60) (.tmp 62) 22 rfl (g + 1) 38 i0 z0 5 48 Tryd.underlying22 hi hz h5 h48 hz5 (by decide) (.slice a0 m c0) (m) (tmcells (O)) hbx.out.1.own (hbx.out.1.blk.lt) _ (some ⟨g6, 0, none⟩) 1 1 (tmC t0) rfl hbx.out.2.1 (fun u hu => tmcells_one (l := [t0]) (by simpa [tmcells] using hu)) rfl rfl (by simp [maxLen]; omega) (by omega) ?_
      intro v7 W7 own7 grow7
      obtain ⟨a7, c7, rfl, -, -, -⟩ := seesC_own own7
      have hx7 : ∃ u, Holds W7 g 52 #[.slice a' (n - 1) (c - 1), u] := ⟨_, holds_grown hbx.out.1.blk grow7 (tb_not hbx.out.1)⟩
      have hend := Lib.hid (tb_told (t := t0) hbx.out.1 own7 grow7)
      have hendB := Lib.hid (tb_told_below (v' := .slice a7 (m + 1) c7) hbx.out.1 hbx.out.2.2 grow7)
      have hH7 := Lib.hid (holds_grown hbx.out.1.blk grow7 (tb_not hbx.out.1))
      clear own7 grow7
      refine hK.out _ _ (hx7) (fun hHeld => ?_)
      clear hK K
      refine wT 8 (v := ?v39) rfl (by kernel_rfl) (fun _ _ _ h => h) ?h39 (by assumption) ?r39
      case h39 => (intro w hSw; (try dsimp only at hSw); go_simp; try with_reducible rfl)
      refine wT 9 (v := ?v40) rfl (by kernel_rfl) (fun _ _ _ h => h) ?h40 (by assumption) ?r40
      case h40 => (intro w hSw; (try dsimp only at hSw); go_simp; try with_reducible rfl)
      try simp only [Act.put, List.setIfInBounds_toArray, List.set_cons_zero, List.set_cons_succ]
      refine wpAnyH_ready (rs := [10]) (by kernel_rfl) (by simp) ?_
      refine AllReadyH.cons (o := ⟨_, _, _, _, _, _⟩) rfl (fun K hK => ?_) AllReadyH.nil
      have c10 := hH7.out.cell 1
      have f10 := hH7.out.free 1
      simp at c10
      go_simp
      refine hK.out _ _ (⟨_, hend.out.blk⟩) (fun hHeld => ?_)
      clear hK K
      try simp only [Act.put, List.setIfInBounds_toArray, List.set_cons_zero, List.set_cons_succ]
      refine wpAnyH_done (by kernel_rfl) ?_ _
      clear hHeld hx6 hx7 hbx hH7 c4 c10 f10
      go_wp2_with fail
      have q := Lib.hid (ih1'.out _ _ _ _ _ _ hend.out)
      have hB2 := Lib.hid hendB.out
      clear hend hendB
      refine q.out.mono ?_
      rintro e u1 ⟨rfl, b1, a2, c2, v2, m2, hT⟩
      have q2 := Lib.hid (ih2'.out _ _ _ _ _ _ hT)
      have hB3 := Lib.hid (hB2.out.trans b1)
      clear b1 hT q hB2
      go_wp2_with fail
      refine q2.out.mono ?_
      rintro e u2 ⟨rfl, b2, a3, c3, v3, m3, hT⟩
      have hf := Lib.hid (And.intro (hB3.out.trans b2) hT)
      clear b2 hT q2 hB3
      go_wp2
      go_end0
      exact ⟨rfl, hf.out.1, _, _, _, _, hf.out.2⟩
set_option maxRecDepth 100000 in
set_option maxHeartbeats 8000000 in
theorem turn_t4 (w : World) (g : Nat) (a : Option Addr) (n c : Nat) (t0 : TmD) (R : List TmD) (v : Value) (m : Nat) (O : List TmD) (P1 O1 P2 O2 : List TmD) (h : TB w g a n c (t0 :: R) v m O) (h3 : t0.op = 4) (hm : m ≤ 100000)
    (ih1 : ∀ W a' n' c' v' m', TB W g a' n' c' R v' m' (O ++ [(⟨5, t0.fld, t0.rel, t0.num, t0.txt⟩ : TmD)]) → Calls Tryd.prog 28 #[.pointer (some ⟨g, 0, none⟩), .bool true] W (TurnE W g P1 O1))
    (ih2 : ∀ W a' n' c' v' m', TB W g a' n' c' P1 v' m' O1 → Calls Tryd.prog 28 #[.pointer (some ⟨g, 0, none⟩), .bool true] W (TurnE W g P2 O2)) :
    Calls Tryd.prog 28 #[.pointer (some ⟨g, 0, none⟩), .bool true] w (TurnE w g P2 O2) := by
  obtain ⟨b, off, rfl, hbg, x0, x1, x2, x3, x4⟩ := seesG_first h.sees
  obtain ⟨a', hcut, hse⟩ := seesG_rest h.sees h.len h.cap
  obtain ⟨a0, c0, rfl, -, -, -⟩ := seesC_own h.own
  have hlen := h.len
  simp only [List.length_cons] at hlen
  have hn0 : (0 : Int) < (n : Int) := by omega
  have k0 := h.blk.cell 0
  have k1 := h.blk.cell 1
  have f0 := h.blk.free 0
  have f1 := h.blk.free 1
  simp at k0 k1
  have hgl := h.blk.lt
  have hbl : b < w.heap.size := by omega
  have hbgn : b ≠ g := by omega
  have TT1 := Lib.hid (fun cs => turn_taken h hse cs)
  have B1 := Lib.hid (fun cs => below_allocB (below_set (Below.refl g w) (p := ⟨g, 0, none⟩) (Nat.le_refl _) (.slice a' (n - 1) (c - 1))) (by simp; omega) (.cells cs 38))
  have hvo : Hid (∀ k, (Value.slice a0 m c0).ownBlock = some k → k < w.heap.size) := Lib.hid (fun k hk => (h.own.lt k hk).2)
  have hlen' := Lib.hid hlen
  clear h hse hlen
  have ih1' := Lib.hid ih1
  have ih2' := Lib.hid ih2
  have h3' := Lib.hid h3
  have hgw := Lib.hid hgl
  clear ih1 ih2 h3
  go_enter Tryd.func28, Tryd.ntmps28
  go_upto_region 2 with fail
  obtain ⟨V1, hV1⟩ : ∃ V1, V1 = (w.setCell ⟨g, 0, none⟩ (.slice a' (n - 1) (c - 1))).alloc (.cells #[.int .i64 t0.op, .int .i64 t0.fld, .int .i64 t0.rel, .int .i64 t0.num, .string t0.txt] 38) := ⟨_, rfl⟩
  have TV : Hid (TB V1 g a' (n - 1) (c - 1) R (.slice a0 m c0) m O) := Lib.hid (by rw [hV1]; exact TT1.out _)
  have BV : Hid (Below g w V1) := Lib.hid (by rw [hV1]; exact B1.out _)
  obtain ⟨gt, hgt⟩ : ∃ gt, gt = w.heap.size := ⟨_, rfl⟩
  have HT : Hid (Holds V1 gt 38 #[.int .i64 t0.op, .int .i64 t0.fld, .int .i64 t0.rel, .int .i64 t0.num, .string t0.txt]) := Lib.hid (by
    rw [hV1, hgt]
    have := Holds.new (w.setCell ⟨g, 0, none⟩ (.slice a' (n - 1) (c - 1))) 38 #[.int .i64 t0.op, .int .i64 t0.fld, .int .i64 t0.rel, .int .i64 t0.num, .string t0.txt]
    rwa [show (w.setCell ⟨g, 0, none⟩ (.slice a' (n - 1) (c - 1))).heap.size = w.heap.size by simp] at this)
  have hvg : Hid (some gt ≠ (Value.slice a0 m c0).ownBlock) := Lib.hid (fun e => by have := hvo.out gt e.symm; omega)
  have hgg : g ≠ gt := by omega
  have hglt := Lib.hid (show g < gt by omega)
  rw [← hV1, ← hgt]
  clear hV1 hgt TT1 B1 hvo k0 k1 f0 f1 x0 x1 x2 x3 x4 hcut hgl hbl
  have t0c := HT.out.cell 0
  simp at t0c
  rw [h3'.out] at t0c
  have t0f := HT.out.free 0
  obtain ⟨V2, hV2⟩ : ∃ V2, V2 = V1.setCell ⟨gt, 0, none⟩ (.int .i64 5) := ⟨_, rfl⟩
  have TV2 : Hid (TB V2 g a' (n - 1) (c - 1) R (.slice a0 m c0) m O) := Lib.hid (by rw [hV2]; exact tb_set TV.out hvg.out hglt.out _)
  have HT2 : Hid (Holds V2 gt 38 #[.int .i64 5, .int .i64 t0.fld, .int .i64 t0.rel, .int .i64 t0.num, .string t0.txt]) := Lib.hid (by rw [hV2]; exact HT.out.set 0 (.int .i64 5))
  have BV2 : Hid (Below g w V2) := Lib.hid (by rw [hV2]; exact below_set BV.out (p := ⟨gt, 0, none⟩) (Nat.le_of_lt hglt.out) _)
  have hV2' := Lib.hid hV2
  clear hV2 TV HT BV
  go_wp2
  rw [← hV2'.out]
  clear hV2' t0f t0c
  obtain ⟨i0, z0, hi, hz, h5, h48, hz5⟩ := infoTmZ
  have hall : Hid (TB V2.drew g a' (n - 1) (c - 1) R (.slice a0 m c0) (m) (O) ∧ Holds V2.drew gt 38 #[.int .i64 5, .int .i64 t0.fld, .int .i64 t0.rel, .int .i64 t0.num, .string t0.txt] ∧ Below g w V2.drew) := Lib.hid ⟨tb_drew TV2.out, HT2.out, BV2.out.drew⟩
  have hsz : V2.drew.heap.size = V2.drew.heap.size := rfl
  refine wp_drawn_on (fun W => ∃ u, Holds W g 52 #[.slice a' (n - 1) (c - 1), u]) (by kernel_rfl) (⟨_, TV2.out.blk⟩) (fun hHeld => ?_)
  generalize V2.drew = VD at hsz hall hHeld ⊢
  refine wT 0 (v := ?v41) rfl (by kernel_rfl) (fun _ _ _ h => h) ?h41 (by assumption) ?r41
  case h41 => (intro w hSw; (try dsimp only at hSw); go_simp; try with_reducible rfl)
  refine wT 1 (v := ?v42) rfl (by kernel_rfl) (fun _ _ _ h => h) ?h42 (by assumption) ?r42
  case h42 => (intro w hSw; (try dsimp only at hSw); go_simp; try with_reducible rfl)
  refine wT 2 (v := ?v43) rfl (by kernel_rfl) (fun _ _ _ h => h) ?h43 (by assumption) ?r43
  case h43 => (intro w hSw; (try dsimp only at hSw); go_simp; try with_reducible rfl)
  refine wT 3 (v := ?v44) rfl (by kernel_rfl) (fun _ _ _ h => h) ?h44 (by assumption) ?r44
  case h44 => (intro w hSw; (try dsimp only at hSw); go_simp; try with_reducible rfl)
  try simp only [Act.put, List.setIfInBounds_toArray, List.set_cons_zero, List.set_cons_succ]
  refine wpAnyH_ready (rs := [4, 5]) (by kernel_rfl) (by simp) ?_
  refine AllReadyH.cons (o := ⟨_, _, _, _, _, _⟩) rfl (fun K hK => ?_) (AllReadyH.cons (o := ⟨_, _, _, _, _, _⟩) rfl (fun K hK => ?_) AllReadyH.nil)
  · have c4 : (VD).cell? ⟨g, 1, none⟩ = some (.slice a0 m c0) := by first | exact (hbx.out.1.blk).cell 1 | exact hall.out.1.blk.cell 1
    go_simp
    refine hK.out _ _ (hHeld) (fun hHeld => ?_)
    clear hK K
    try simp only [Act.put, List.setIfInBounds_toArray, List.set_cons_zero, List.set_cons_succ]
    refine wpAnyH_ready (rs := [5]) (by kernel_rfl) (by simp) ?_
    refine AllReadyH.cons (o := ⟨_, _, _, _, _, _⟩) rfl (fun K hK => ?_) AllReadyH.nil
    have tc0 : (VD).cell? ⟨gt, 0, none⟩ = some (.int .i64 5) := hall.out.2.1.cell 0
    have tc1 : (VD).cell? ⟨gt, 1, none⟩ = some (.int .i64 t0.fld) := hall.out.2.1.cell 1
    have tc2 : (VD).cell? ⟨gt, 2, none⟩ = some (.int .i64 t0.rel) := hall.out.2.1.cell 2
    have tc3 : (VD).cell? ⟨gt, 3, none⟩ = some (.int .i64 t0.num) := hall.out.2.1.cell 3
    have tc4 : (VD).cell? ⟨gt, 4, none⟩ = some (.string t0.txt) := hall.out.2.1.cell 4
    go_simp
    clear tc0 tc1 tc2 tc3 tc4
    refine hK.out _ _ (hHeld) (fun hHeld => ?_)
    clear hK K
    try simp only [Act.put, List.setIfInBounds_toArray, List.set_cons_zero, List.set_cons_succ]
    refine wpAnyH_ready (rs := [6]) (by kernel_rfl) (by simp) ?_
    refine AllReadyH.cons (o := ⟨_, _, _, _, _, _⟩) rfl (fun K hK => ?_) AllReadyH.nil
    have hx6 : ∃ u, Holds (VD.alloc (.cells #[.int .i64 5, .int .i64 t0.fld, .int .i64 t0.rel, .int .i64 t0.num, .string t0.txt] 38)) g 52 #[.slice a' (n - 1) (c - 1), u] := ⟨_, hall.out.1.blk.alloc _⟩
    have hbx : Hid (TB (VD.alloc (.cells #[.int .i64 5, .int .i64 t0.fld, .int .i64 t0.rel, .int .i64 t0.num, .string t0.txt] 38)) g a' (n - 1) (c - 1) R (.slice a0 m c0) (m) (O) ∧ SeesC (VD.alloc (.cells #[.int .i64 5, .int .i64 t0.fld, .int .i64 t0.rel, .int .i64 t0.num, .string t0.txt] 38)).heap.size (VD.alloc (.cells #[.int .i64 5, .int .i64 t0.fld, .int .i64 t0.rel, .int .i64 t0.num, .string t0.txt] 38)) (some ⟨VD.heap.size, 0, none⟩) (tmC (⟨5, t0.fld, t0.rel, t0.num, t0.txt⟩ : TmD)) ∧ Below g w (VD.alloc (.cells #[.int .i64 5, .int .i64 t0.fld, .int .i64 t0.rel, .int .i64 t0.num, .string t0.txt] 38))) := Lib.hid ⟨tb_alloc hall.out.1 _, seesC_lit VD 38 #[.int .i64 5, .int .i64 t0.fld, .int .i64 t0.rel, .int .i64 t0.num, .string t0.txt], below_allocB hall.out.2.2 (Nat.le_of_lt hall.out.1.blk.lt) _⟩
    go_simp
    generalize VD.alloc (.cells #[.int .i64 5, .int .i64 t0.fld, .int .i64 t0.rel, .int .i64 t0.num, .string t0.txt] 38) = V6 at *
    generalize VD.heap.size = g6 at *
    refine hK.out _ _ (hx6) (fun hHeld => ?_)
    clear hK K
    try simp only [Act.put, List.setIfInBounds_toArray, List.set_cons_zero, List.set_cons_succ]
    refine wpAnyH_ready (rs := [7]) (by kernel_rfl) (by simp) ?_
    refine AllReadyH.cons (o := ⟨_, _, _, _, _, _⟩) rfl (fun K hK => ?_) AllReadyH.nil
    refine wp_append_cellsB _ (.tmp 60) (.tmp 62) 22 rfl (g + 1) 38 i0 z0 5 48 Tryd.underlying22 hi hz h5 h48 hz5 (by decide) (.slice a0 m c0) (m) (tmcells (O)) hbx.out.1.own (hbx.out.1.blk.lt) _ (some ⟨g6, 0, none⟩) 1 1 (tmC (⟨5, t0.fld, t0.rel, t0.num, t0.txt⟩ : TmD)) rfl hbx.out.2.1 (fun u hu => tmcells_one (l := [(⟨5, t0.fld, t0.rel, t0.num, t0.txt⟩ : TmD)]) (by simpa [tmcells] using hu)) rfl rfl (by simp [maxLen]; omega) (by omega) ?_
    intro v7 W7 own7 grow7
    obtain ⟨a7, c7, rfl, -, -, -⟩ := seesC_own own7
    have hx7 : ∃ u, Holds W7 g 52 #[.slice a' (n - 1) (c - 1), u] := ⟨_, holds_grown hbx.out.1.blk grow7 (tb_not hbx.out.1)⟩
    have hend := Lib.hid (tb_told (t := (⟨5, t0.fld, t0.rel, t0.num, t0.txt⟩ : TmD)) hbx.out.1 own7 grow7)
    have hendB := Lib.hid (tb_told_below (v' := .slice a7 (m + 1) c7) hbx.out.1 hbx.out.2.2 grow7)
    have hH7 := Lib.hid (holds_grown hbx.out.1.blk grow7 (tb_not hbx.out.1))
    clear own7 grow7
    refine hK.out _ _ (hx7) (fun hHeld => ?_)
    clear hK K
    refine wT 8 (v := ?v45) rfl (by kernel_rfl) (fun _ _ _ h => h) ?h45 (by assumption) ?r45
    case h45 => (intro w hSw; (try dsimp only at hSw); go_simp; try with_reducible rfl)
    refine wT 9 (v := ?v46) rfl (by kernel_rfl) (fun _ _ _ h => h) ?h46 (by assumption) ?r46
    case h46 => (intro w hSw; (try dsimp only at hSw); go_simp; try with_reducible rfl)
    try simp only [Act.put, List.setIfInBounds_toArray, List.set_cons_zero, List.set_cons_succ]
    refine wpAnyH_ready (rs := [10]) (by kernel_rfl) (by simp) ?_
    refine AllReadyH.cons (o := ⟨_, _, _, _, _, _⟩) rfl (fun K hK => ?_) AllReadyH.nil
    have c10 := hH7.out.cell 1
    have f10 := hH7.out.free 1
    simp at c10
    go_simp
    refine hK.out _ _ (⟨_, hend.out.blk⟩) (fun hHeld => ?_)
    clear hK K
    try simp only [Act.put, List.setIfInBounds_toArray, List.set_cons_zero, List.set_cons_succ]
    refine wpAnyH_done (by kernel_rfl) ?_ _
    clear hHeld hx6 hx7 hbx hH7 c4 c10 f10
    go_wp2_with fail
    have q := Lib.hid (ih1'.out _ _ _ _ _ _ hend.out)
    have hB2 := Lib.hid hendB.out
    clear hend hendB
    refine q.out.mono ?_
    rintro e u1 ⟨rfl, b1, a2, c2, v2, m2, hT⟩
    have q2 := Lib.hid (ih2'.out _ _ _ _ _ _ hT)
    have hB3 := Lib.hid (hB2.out.trans b1)
    clear b1 hT q hB2
    go_wp2_with fail
    refine q2.out.mono ?_
    rintro e u2 ⟨rfl, b2, a3, c3, v3, m3, hT⟩
    have hf := Lib.hid (And.intro (hB3.out.trans b2) hT)
    clear b2 hT q2 hB3
    go_wp2
    go_end0
    exact ⟨rfl, hf.out.1, _, _, _, _, hf.out.2⟩
  · have tc0 : (VD).cell? ⟨gt, 0, none⟩ = some (.int .i64 5) := hall.out.2.1.cell 0
    have tc1 : (VD).cell? ⟨gt, 1, none⟩ = some (.int .i64 t0.fld) := hall.out.2.1.cell 1
    have tc2 : (VD).cell? ⟨gt, 2, none⟩ = some (.int .i64 t0.rel) := hall.out.2.1.cell 2
    have tc3 : (VD).cell? ⟨gt, 3, none⟩ = some (.int .i64 t0.num) := hall.out.2.1.cell 3
    have tc4 : (VD).cell? ⟨gt, 4, none⟩ = some (.string t0.txt) := hall.out.2.1.cell 4
    go_simp
    clear tc0 tc1 tc2 tc3 tc4
    refine hK.out _ _ (hHeld) (fun hHeld => ?_)
    clear hK K
    try simp only [Act.put, List.setIfInBounds_toArray, List.set_cons_zero, List.set_cons_succ]
    refine wpAnyH_ready (rs := [4, 6]) (by kernel_rfl) (by simp) ?_
    refine AllReadyH.cons (o := ⟨_, _, _, _, _, _⟩) rfl (fun K hK => ?_) (AllReadyH.cons (o := ⟨_, _, _, _, _, _⟩) rfl (fun K hK => ?_) AllReadyH.nil)
    · have c4 : (VD).cell? ⟨g, 1, none⟩ = some (.slice a0 m c0) := by first | exact (hbx.out.1.blk).cell 1 | exact hall.out.1.blk.cell 1
      go_simp
      refine hK.out _ _ (hHeld) (fun hHeld => ?_)
      clear hK K
      try simp only [Act.put, List.setIfInBounds_toArray, List.set_cons_zero, List.set_cons_succ]
      refine wpAnyH_ready (rs := [6]) (by kernel_rfl) (by simp) ?_
      refine AllReadyH.cons (o := ⟨_, _, _, _, _, _⟩) rfl (fun K hK => ?_) AllReadyH.nil
      have hx6 : ∃ u, Holds (VD.alloc (.cells #[.int .i64 5, .int .i64 t0.fld, .int .i64 t0.rel, .int .i64 t0.num, .string t0.txt] 38)) g 52 #[.slice a' (n - 1) (c - 1), u] := ⟨_, hall.out.1.blk.alloc _⟩
      have hbx : Hid (TB (VD.alloc (.cells #[.int .i64 5, .int .i64 t0.fld, .int .i64 t0.rel, .int .i64 t0.num, .string t0.txt] 38)) g a' (n - 1) (c - 1) R (.slice a0 m c0) (m) (O) ∧ SeesC (VD.alloc (.cells #[.int .i64 5, .int .i64 t0.fld, .int .i64 t0.rel, .int .i64 t0.num, .string t0.txt] 38)).heap.size (VD.alloc (.cells #[.int .i64 5, .int .i64 t0.fld, .int .i64 t0.rel, .int .i64 t0.num, .string t0.txt] 38)) (some ⟨VD.heap.size, 0, none⟩) (tmC (⟨5, t0.fld, t0.rel, t0.num, t0.txt⟩ : TmD)) ∧ Below g w (VD.alloc (.cells #[.int .i64 5, .int .i64 t0.fld, .int .i64 t0.rel, .int .i64 t0.num, .string t0.txt] 38))) := Lib.hid ⟨tb_alloc hall.out.1 _, seesC_lit VD 38 #[.int .i64 5, .int .i64 t0.fld, .int .i64 t0.rel, .int .i64 t0.num, .string t0.txt], below_allocB hall.out.2.2 (Nat.le_of_lt hall.out.1.blk.lt) _⟩
      go_simp
      generalize VD.alloc (.cells #[.int .i64 5, .int .i64 t0.fld, .int .i64 t0.rel, .int .i64 t0.num, .string t0.txt] 38) = V6 at *
      generalize VD.heap.size = g6 at *
      refine hK.out _ _ (hx6) (fun hHeld => ?_)
      clear hK K
      try simp only [Act.put, List.setIfInBounds_toArray, List.set_cons_zero, List.set_cons_succ]
      refine wpAnyH_ready (rs := [7]) (by kernel_rfl) (by simp) ?_
      refine AllReadyH.cons (o := ⟨_, _, _, _, _, _⟩) rfl (fun K hK => ?_) AllReadyH.nil
      refine wp_append_cellsB _ (.tmp 60) (.tmp 62) 22 rfl (g + 1) 38 i0 z0 5 48 Tryd.underlying22 hi hz h5 h48 hz5 (by decide) (.slice a0 m c0) (m) (tmcells (O)) hbx.out.1.own (hbx.out.1.blk.lt) _ (some ⟨g6, 0, none⟩) 1 1 (tmC (⟨5, t0.fld, t0.rel, t0.num, t0.txt⟩ : TmD)) rfl hbx.out.2.1 (fun u hu => tmcells_one (l := [(⟨5, t0.fld, t0.rel, t0.num, t0.txt⟩ : TmD)]) (by simpa [tmcells] using hu)) rfl rfl (by simp [maxLen]; omega) (by omega) ?_
      intro v7 W7 own7 grow7
      obtain ⟨a7, c7, rfl, -, -, -⟩ := seesC_own own7
      have hx7 : ∃ u, Holds W7 g 52 #[.slice a' (n - 1) (c - 1), u] := ⟨_, holds_grown hbx.out.1.blk grow7 (tb_not hbx.out.1)⟩
      have hend := Lib.hid (tb_told (t := (⟨5, t0.fld, t0.rel, t0.num, t0.txt⟩ : TmD)) hbx.out.1 own7 grow7)
      have hendB := Lib.hid (tb_told_below (v' := .slice a7 (m + 1) c7) hbx.out.1 hbx.out.2.2 grow7)
      have hH7 := Lib.hid (holds_grown hbx.out.1.blk grow7 (tb_not hbx.out.1))
      clear own7 grow7
      refine hK.out _ _ (hx7) (fun hHeld => ?_)
      clear hK K
      refine wT 8 (v := ?v47) rfl (by kernel_rfl) (fun _ _ _ h => h) ?h47 (by assumption) ?r47
      case h47 => (intro w hSw; (try dsimp only at hSw); go_simp; try with_reducible rfl)
      refine wT 9 (v := ?v48) rfl (by kernel_rfl) (fun _ _ _ h => h) ?h48 (by assumption) ?r48
      case h48 => (intro w hSw; (try dsimp only at hSw); go_simp; try with_reducible rfl)
      try simp only [Act.put, List.setIfInBounds_toArray, List.set_cons_zero, List.set_cons_succ]
      refine wpAnyH_ready (rs := [10]) (by kernel_rfl) (by simp) ?_
      refine AllReadyH.cons (o := ⟨_, _, _, _, _, _⟩) rfl (fun K hK => ?_) AllReadyH.nil
      have c10 := hH7.out.cell 1
      have f10 := hH7.out.free 1
      simp at c10
      go_simp
      refine hK.out _ _ (⟨_, hend.out.blk⟩) (fun hHeld => ?_)
      clear hK K
      try simp only [Act.put, List.setIfInBounds_toArray, List.set_cons_zero, List.set_cons_succ]
      refine wpAnyH_done (by kernel_rfl) ?_ _
      clear hHeld hx6 hx7 hbx hH7 c4 c10 f10
      go_wp2_with fail
      have q := Lib.hid (ih1'.out _ _ _ _ _ _ hend.out)
      have hB2 := Lib.hid hendB.out
      clear hend hendB
      refine q.out.mono ?_
      rintro e u1 ⟨rfl, b1, a2, c2, v2, m2, hT⟩
      have q2 := Lib.hid (ih2'.out _ _ _ _ _ _ hT)
      have hB3 := Lib.hid (hB2.out.trans b1)
      clear b1 hT q hB2
      go_wp2_with fail
      refine q2.out.mono ?_
      rintro e u2 ⟨rfl, b2, a3, c3, v3, m3, hT⟩
      have hf := Lib.hid (And.intro (hB3.out.trans b2) hT)
      clear b2 hT q2 hB3
      go_wp2
      go_end0
      exact ⟨rfl, hf.out.1, _, _, _, _, hf.out.2⟩
    · have hx6 : ∃ u, Holds (VD.alloc (.cells #[.int .i64 5, .int .i64 t0.fld, .int .i64 t0.rel, .int .i64 t0.num, .string t0.txt] 38)) g 52 #[.slice a' (n - 1) (c - 1), u] := ⟨_, hall.out.1.blk.alloc _⟩
      have hbx : Hid (TB (VD.alloc (.cells #[.int .i64 5, .int .i64 t0.fld, .int .i64 t0.rel, .int .i64 t0.num, .string t0.txt] 38)) g a' (n - 1) (c - 1) R (.slice a0 m c0) (m) (O) ∧ SeesC (VD.alloc (.cells #[.int .i64 5, .int .i64 t0.fld, .int .i64 t0.rel, .int .i64 t0.num, .string t0.txt] 38)).heap.size (VD.alloc (.cells #[.int .i64 5, .int .i64 t0.fld, .int .i64 t0.rel, .int .i64 t0.num, .string t0.txt] 38)) (some ⟨VD.heap.size, 0, none⟩) (tmC (⟨5, t0.fld, t0.rel, t0.num, t0.txt⟩ : TmD)) ∧ Below g w (VD.alloc (.cells #[.int .i64 5, .int .i64 t0.fld, .int .i64 t0.rel, .int .i64 t0.num, .string t0.txt] 38))) := Lib.hid ⟨tb_alloc hall.out.1 _, seesC_lit VD 38 #[.int .i64 5, .int .i64 t0.fld, .int .i64 t0.rel, .int .i64 t0.num, .string t0.txt], below_allocB hall.out.2.2 (Nat.le_of_lt hall.out.1.blk.lt) _⟩
      go_simp
      generalize VD.alloc (.cells #[.int .i64 5, .int .i64 t0.fld, .int .i64 t0.rel, .int .i64 t0.num, .string t0.txt] 38) = V6 at *
      generalize VD.heap.size = g6 at *
      refine hK.out _ _ (hx6) (fun hHeld => ?_)
      clear hK K
      try simp only [Act.put, List.setIfInBounds_toArray, List.set_cons_zero, List.set_cons_succ]
      refine wpAnyH_ready (rs := [4]) (by kernel_rfl) (by simp) ?_
      refine AllReadyH.cons (o := ⟨_, _, _, _, _, _⟩) rfl (fun K hK => ?_) AllReadyH.nil
      have c4 : (V6).cell? ⟨g, 1, none⟩ = some (.slice a0 m c0) := by first | exact (hbx.out.1.blk).cell 1 | exact hall.out.1.blk.cell 1
      go_simp
      refine hK.out _ _ (hHeld) (fun hHeld => ?_)
      clear hK K
      try simp only [Act.put, List.setIfInBounds_toArray, List.set_cons_zero, List.set_cons_succ]
      refine wpAnyH_ready (rs := [7]) (by kernel_rfl) (by simp) ?_
      refine AllReadyH.cons (o := ⟨_, _, _, _, _, _⟩) rfl (fun K hK => ?_) AllReadyH.nil
      refine wp_append_cellsB _ (.tmp 60) (.tmp 62) 22 rfl (g + 1) 38 i0 z0 5 48 Tryd.underlying22 hi hz h5 h48 hz5 (by decide) (.slice a0 m c0) (m) (tmcells (O)) hbx.out.1.own (hbx.out.1.blk.lt) _ (some ⟨g6, 0, none⟩) 1 1 (tmC (⟨5, t0.fld, t0.rel, t0.num, t0.txt⟩ : TmD)) rfl hbx.out.2.1 (fun u hu => tmcells_one (l := [(⟨5, t0.fld, t0.rel, t0.num, t0.txt⟩ : TmD)]) (by simpa [tmcells] using hu)) rfl rfl (by simp [maxLen]; omega) (by omega) ?_
      intro v7 W7 own7 grow7
      obtain ⟨a7, c7, rfl, -, -, -⟩ := seesC_own own7
      have hx7 : ∃ u, Holds W7 g 52 #[.slice a' (n - 1) (c - 1), u] := ⟨_, holds_grown hbx.out.1.blk grow7 (tb_not hbx.out.1)⟩
      have hend := Lib.hid (tb_told (t := (⟨5, t0.fld, t0.rel, t0.num, t0.txt⟩ : TmD)) hbx.out.1 own7 grow7)
      have hendB := Lib.hid (tb_told_below (v' := .slice a7 (m + 1) c7) hbx.out.1 hbx.out.2.2 grow7)
      have hH7 := Lib.hid (holds_grown hbx.out.1.blk grow7 (tb_not hbx.out.1))
      clear own7 grow7
      refine hK.out _ _ (hx7) (fun hHeld => ?_)
      clear hK K
      refine wT 8 (v := ?v49) rfl (by kernel_rfl) (fun _ _ _ h => h) ?h49 (by assumption) ?r49
      case h49 => (intro w hSw; (try dsimp only at hSw); go_simp; try with_reducible rfl)
      refine wT 9 (v := ?v50) rfl (by kernel_rfl) (fun _ _ _ h => h) ?h50 (by assumption) ?r50
      case h50 => (intro w hSw; (try dsimp only at hSw); go_simp; try with_reducible rfl)
      try simp only [Act.put, List.setIfInBounds_toArray, List.set_cons_zero, List.set_cons_succ]
      refine wpAnyH_ready (rs := [10]) (by kernel_rfl) (by simp) ?_
      refine AllReadyH.cons (o := ⟨_, _, _, _, _, _⟩) rfl (fun K hK => ?_) AllReadyH.nil
      have c10 := hH7.out.cell 1
      have f10 := hH7.out.free 1
      simp at c10
      go_simp
      refine hK.out _ _ (⟨_, hend.out.blk⟩) (fun hHeld => ?_)
      clear hK K
      try simp only [Act.put, List.setIfInBounds_toArray, List.set_cons_zero, List.set_cons_succ]
      refine wpAnyH_done (by kernel_rfl) ?_ _
      clear hHeld hx6 hx7 hbx hH7 c4 c10 f10
      go_wp2_with fail
      have q := Lib.hid (ih1'.out _ _ _ _ _ _ hend.out)
      have hB2 := Lib.hid hendB.out
      clear hend hendB
      refine q.out.mono ?_
      rintro e u1 ⟨rfl, b1, a2, c2, v2, m2, hT⟩
      have q2 := Lib.hid (ih2'.out _ _ _ _ _ _ hT)
      have hB3 := Lib.hid (hB2.out.trans b1)
      clear b1 hT q hB2
      go_wp2_with fail
      refine q2.out.mono ?_
      rintro e u2 ⟨rfl, b2, a3, c3, v3, m3, hT⟩
      have hf := Lib.hid (And.intro (hB3.out.trans b2) hT)
      clear b2 hT q2 hB3
      go_wp2
      go_end0
      exact ⟨rfl, hf.out.1, _, _, _, _, hf.out.2⟩
set_option maxRecDepth 100000 in
set_option maxHeartbeats 8000000 in
theorem turn_t5 (w : World) (g : Nat) (a : Option Addr) (n c : Nat) (t0 : TmD) (R : List TmD) (v : Value) (m : Nat) (O : List TmD) (P1 O1 P2 O2 : List TmD) (h : TB w g a n c (t0 :: R) v m O) (h3 : t0.op = 5) (hm : m ≤ 100000)
    (ih1 : ∀ W a' n' c' v' m', TB W g a' n' c' R v' m' (O ++ [(⟨4, t0.fld, t0.rel, t0.num, t0.txt⟩ : TmD)]) → Calls Tryd.prog 28 #[.pointer (some ⟨g, 0, none⟩), .bool true] W (TurnE W g P1 O1))
    (ih2 : ∀ W a' n' c' v' m', TB W g a' n' c' P1 v' m' O1 → Calls Tryd.prog 28 #[.pointer (some ⟨g, 0, none⟩), .bool true] W (TurnE W g P2 O2)) :
    Calls Tryd.prog 28 #[.pointer (some ⟨g, 0, none⟩), .bool true] w (TurnE w g P2 O2) := by
  obtain ⟨b, off, rfl, hbg, x0, x1, x2, x3, x4⟩ := seesG_first h.sees
  obtain ⟨a', hcut, hse⟩ := seesG_rest h.sees h.len h.cap
  obtain ⟨a0, c0, rfl, -, -, -⟩ := seesC_own h.own
  have hlen := h.len
  simp only [List.length_cons] at hlen
  have hn0 : (0 : Int) < (n : Int) := by omega
  have k0 := h.blk.cell 0
  have k1 := h.blk.cell 1
  have f0 := h.blk.free 0
  have f1 := h.blk.free 1
  simp at k0 k1
  have hgl := h.blk.lt
  have hbl : b < w.heap.size := by omega
  have hbgn : b ≠ g := by omega
  have TT1 := Lib.hid (fun cs => turn_taken h hse cs)
  have B1 := Lib.hid (fun cs => below_allocB (below_set (Below.refl g w) (p := ⟨g, 0, none⟩) (Nat.le_refl _) (.slice a' (n - 1) (c - 1))) (by simp; omega) (.cells cs 38))
  have hvo : Hid (∀ k, (Value.slice a0 m c0).ownBlock = some k → k < w.heap.size) := Lib.hid (fun k hk => (h.own.lt k hk).2)
  have hlen' := Lib.hid hlen
  clear h hse hlen
  have ih1' := Lib.hid ih1
  have ih2' := Lib.hid ih2
  have h3' := Lib.hid h3
  have hgw := Lib.hid hgl
  clear ih1 ih2 h3
  go_enter Tryd.func28, Tryd.ntmps28
  go_upto_region 2 with fail
  obtain ⟨V1, hV1⟩ : ∃ V1, V1 = (w.setCell ⟨g, 0, none⟩ (.slice a' (n - 1) (c - 1))).alloc (.cells #[.int .i64 t0.op, .int .i64 t0.fld, .int .i64 t0.rel, .int .i64 t0.num, .string t0.txt] 38) := ⟨_, rfl⟩
  have TV : Hid (TB V1 g a' (n - 1) (c - 1) R (.slice a0 m c0) m O) := Lib.hid (by rw [hV1]; exact TT1.out _)
  have BV : Hid (Below g w V1) := Lib.hid (by rw [hV1]; exact B1.out _)
  obtain ⟨gt, hgt⟩ : ∃ gt, gt = w.heap.size := ⟨_, rfl⟩
  have HT : Hid (Holds V1 gt 38 #[.int .i64 t0.op, .int .i64 t0.fld, .int .i64 t0.rel, .int .i64 t0.num, .string t0.txt]) := Lib.hid (by
    rw [hV1, hgt]
    have := Holds.new (w.setCell ⟨g, 0, none⟩ (.slice a' (n - 1) (c - 1))) 38 #[.int .i64 t0.op, .int .i64 t0.fld, .int .i64 t0.rel, .int .i64 t0.num, .string t0.txt]
    rwa [show (w.setCell ⟨g, 0, none⟩ (.slice a' (n - 1) (c - 1))).heap.size = w.heap.size by simp] at this)
  have hvg : Hid (some gt ≠ (Value.slice a0 m c0).ownBlock) := Lib.hid (fun e => by have := hvo.out gt e.symm; omega)
  have hgg : g ≠ gt := by omega
  have hglt := Lib.hid (show g < gt by omega)
  rw [← hV1, ← hgt]
  clear hV1 hgt TT1 B1 hvo k0 k1 f0 f1 x0 x1 x2 x3 x4 hcut hgl hbl
  have t0c := HT.out.cell 0
  simp at t0c
  rw [h3'.out] at t0c
  have t0f := HT.out.free 0
  obtain ⟨V2, hV2⟩ : ∃ V2, V2 = V1.setCell ⟨gt, 0, none⟩ (.int .i64 4) := ⟨_, rfl⟩
  have TV2 : Hid (TB V2 g a' (n - 1) (c - 1) R (.slice a0 m c0) m O) := Lib.hid (by rw [hV2]; exact tb_set TV.out hvg.out hglt.out _)
  have HT2 : Hid (Holds V2 gt 38 #[.int .i64 4, .int .i64 t0.fld, .int .i64 t0.rel, .int .i64 t0.num, .string t0.txt]) := Lib.hid (by rw [hV2]; exact HT.out.set 0 (.int .i64 4))
  have BV2 : Hid (Below g w V2) := Lib.hid (by rw [hV2]; exact below_set BV.out (p := ⟨gt, 0, none⟩) (Nat.le_of_lt hglt.out) _)
  have hV2' := Lib.hid hV2
  clear hV2 TV HT BV
  go_wp2
  rw [← hV2'.out]
  clear hV2' t0f t0c
  obtain ⟨i0, z0, hi, hz, h5, h48, hz5⟩ := infoTmZ
  have hall : Hid (TB V2.drew g a' (n - 1) (c - 1) R (.slice a0 m c0) (m) (O) ∧ Holds V2.drew gt 38 #[.int .i64 4, .int .i64 t0.fld, .int .i64 t0.rel, .int .i64 t0.num, .string t0.txt] ∧ Below g w V2.drew) := Lib.hid ⟨tb_drew TV2.out, HT2.out, BV2.out.drew⟩
  have hsz : V2.drew.heap.size = V2.drew.heap.size := rfl
  refine wp_drawn_on (fun W => ∃ u, Holds W g 52 #[.slice a' (n - 1) (c - 1), u]) (by kernel_rfl) (⟨_, TV2.out.blk⟩) (fun hHeld => ?_)
  generalize V2.drew = VD at hsz hall hHeld ⊢
  refine wT 0 (v := ?v51) rfl (by kernel_rfl) (fun _ _ _ h => h) ?h51 (by assumption) ?r51
  case h51 => (intro w hSw; (try dsimp only at hSw); go_simp; try with_reducible rfl)
  refine wT 1 (v := ?v52) rfl (by kernel_rfl) (fun _ _ _ h => h) ?h52 (by assumption) ?r52
  case h52 => (intro w hSw; (try dsimp only at hSw); go_simp; try with_reducible rfl)
  refine wT 2 (v := ?v53) rfl (by kernel_rfl) (fun _ _ _ h => h) ?h53 (by assumption) ?r53
  case h53 => (intro w hSw; (try dsimp only at hSw); go_simp; try with_reducible rfl)
  refine wT 3 (v := ?v54) rfl (by kernel_rfl) (fun _ _ _ h => h) ?h54 (by assumption) ?r54
  case h54 => (intro w hSw; (try dsimp only at hSw); go_simp; try with_reducible rfl)
  try simp only [Act.put, List.setIfInBounds_toArray, List.set_cons_zero, List.set_cons_succ]
  refine wpAnyH_ready (rs := [4, 5]) (by kernel_rfl) (by simp) ?_
  refine AllReadyH.cons (o := ⟨_, _, _, _, _, _⟩) rfl (fun K hK => ?_) (AllReadyH.cons (o := ⟨_, _, _, _, _, _⟩) rfl (fun K hK => ?_) AllReadyH.nil)
  · have c4 : (VD).cell? ⟨g, 1, none⟩ = some (.slice a0 m c0) := by first | exact (hbx.out.1.blk).cell 1 | exact hall.out.1.blk.cell 1
    go_simp
    refine hK.out _ _ (hHeld) (fun hHeld => ?_)
    clear hK K
    try simp only [Act.put, List.setIfInBounds_toArray, List.set_cons_zero, List.set_cons_succ]
    refine wpAnyH_ready (rs := [5]) (by kernel_rfl) (by simp) ?_
    refine AllReadyH.cons (o := ⟨_, _, _, _, _, _⟩) rfl (fun K hK => ?_) AllReadyH.nil
    have tc0 : (VD).cell? ⟨gt, 0, none⟩ = some (.int .i64 4) := hall.out.2.1.cell 0
    have tc1 : (VD).cell? ⟨gt, 1, none⟩ = some (.int .i64 t0.fld) := hall.out.2.1.cell 1
    have tc2 : (VD).cell? ⟨gt, 2, none⟩ = some (.int .i64 t0.rel) := hall.out.2.1.cell 2
    have tc3 : (VD).cell? ⟨gt, 3, none⟩ = some (.int .i64 t0.num) := hall.out.2.1.cell 3
    have tc4 : (VD).cell? ⟨gt, 4, none⟩ = some (.string t0.txt) := hall.out.2.1.cell 4
    go_simp
    clear tc0 tc1 tc2 tc3 tc4
    refine hK.out _ _ (hHeld) (fun hHeld => ?_)
    clear hK K
    try simp only [Act.put, List.setIfInBounds_toArray, List.set_cons_zero, List.set_cons_succ]
    refine wpAnyH_ready (rs := [6]) (by kernel_rfl) (by simp) ?_
    refine AllReadyH.cons (o := ⟨_, _, _, _, _, _⟩) rfl (fun K hK => ?_) AllReadyH.nil
    have hx6 : ∃ u, Holds (VD.alloc (.cells #[.int .i64 4, .int .i64 t0.fld, .int .i64 t0.rel, .int .i64 t0.num, .string t0.txt] 38)) g 52 #[.slice a' (n - 1) (c - 1), u] := ⟨_, hall.out.1.blk.alloc _⟩
    have hbx : Hid (TB (VD.alloc (.cells #[.int .i64 4, .int .i64 t0.fld, .int .i64 t0.rel, .int .i64 t0.num, .string t0.txt] 38)) g a' (n - 1) (c - 1) R (.slice a0 m c0) (m) (O) ∧ SeesC (VD.alloc (.cells #[.int .i64 4, .int .i64 t0.fld, .int .i64 t0.rel, .int .i64 t0.num, .string t0.txt] 38)).heap.size (VD.alloc (.cells #[.int .i64 4, .int .i64 t0.fld, .int .i64 t0.rel, .int .i64 t0.num, .string t0.txt] 38)) (some ⟨VD.heap.size, 0, none⟩) (tmC (⟨4, t0.fld, t0.rel, t0.num, t0.txt⟩ : TmD)) ∧ Below g w (VD.alloc (.cells #[.int .i64 4, .int .i64 t0.fld, .int .i64 t0.rel, .int .i64 t0.num, .string t0.txt] 38))) := Lib.hid ⟨tb_alloc hall.out.1 _, seesC_lit VD 38 #[.int .i64 4, .int .i64 t0.fld, .int .i64 t0.rel, .int .i64 t0.num, .string t0.txt], below_allocB hall.out.2.2 (Nat.le_of_lt hall.out.1.blk.lt) _⟩
    go_simp
    generalize VD.alloc (.cells #[.int .i64 4, .int .i64 t0.fld, .int .i64 t0.rel, .int .i64 t0.num, .string t0.txt] 38) = V6 at *
    generalize VD.heap.size = g6 at *
    refine hK.out _ _ (hx6) (fun hHeld => ?_)
    clear hK K
    try simp only [Act.put, List.setIfInBounds_toArray, List.set_cons_zero, List.set_cons_succ]
    refine wpAnyH_ready (rs := [7]) (by kernel_rfl) (by simp) ?_
    refine AllReadyH.cons (o := ⟨_, _, _, _, _, _⟩) rfl (fun K hK => ?_) AllReadyH.nil
    refine wp_append_cellsB _ (.tmp 60) (.tmp 62) 22 rfl (g + 1) 38 i0 z0 5 48 Tryd.underlying22 hi hz h5 h48 hz5 (by decide) (.slice a0 m c0) (m) (tmcells (O)) hbx.out.1.own (hbx.out.1.blk.lt) _ (some ⟨g6, 0, none⟩) 1 1 (tmC (⟨4, t0.fld, t0.rel, t0.num, t0.txt⟩ : TmD)) rfl hbx.out.2.1 (fun u hu => tmcells_one (l := [(⟨4, t0.fld, t0.rel, t0.num, t0.txt⟩ : TmD)]) (by simpa [tmcells] using hu)) rfl rfl (by simp [maxLen]; omega) (by omega) ?_
    intro v7 W7 own7 grow7
    obtain ⟨a7, c7, rfl, -, -, -⟩ := seesC_own own7
    have hx7 : ∃ u, Holds W7 g 52 #[.slice a' (n - 1) (c - 1), u] := ⟨_, holds_grown hbx.out.1.blk grow7 (tb_not hbx.out.1)⟩
    have hend := Lib.hid (tb_told (t := (⟨4, t0.fld, t0.rel, t0.num, t0.txt⟩ : TmD)) hbx.out.1 own7 grow7)
    have hendB := Lib.hid (tb_told_below (v' := .slice a7 (m + 1) c7) hbx.out.1 hbx.out.2.2 grow7)
    have hH7 := Lib.hid (holds_grown hbx.out.1.blk grow7 (tb_not hbx.out.1))
    clear own7 grow7
    refine hK.out _ _ (hx7) (fun hHeld => ?_)
    clear hK K
    refine wT 8 (v := ?v55) rfl (by kernel_rfl) (fun _ _ _ h => h) ?h55 (by assumption) ?r55
    case h55 => (intro w hSw; (try dsimp only at hSw); go_simp; try with_reducible rfl)
    refine wT 9 (v := ?v56) rfl (by kernel_rfl) (fun _ _ _ h => h) ?h56 (by assumption) ?r56
    case h56 => (intro w hSw; (try dsimp only at hSw); go_simp; try with_reducible rfl)
    try simp only [Act.put, List.setIfInBounds_toArray, List.set_cons_zero, List.set_cons_succ]
    refine wpAnyH_ready (rs := [10]) (by kernel_rfl) (by simp) ?_
    refine AllReadyH.cons (o := ⟨_, _, _, _, _, _⟩) rfl (fun K hK => ?_) AllReadyH.nil
    have c10 := hH7.out.cell 1
    have f10 := hH7.out.free 1
    simp at c10
    go_simp
    refine hK.out _ _ (⟨_, hend.out.blk⟩) (fun hHeld => ?_)
    clear hK K
    try simp only [Act.put, List.setIfInBounds_toArray, List.set_cons_zero, List.set_cons_succ]
    refine wpAnyH_done (by kernel_rfl) ?_ _
    clear hHeld hx6 hx7 hbx hH7 c4 c10 f10
    go_wp2_with fail
    have q := Lib.hid (ih1'.out _ _ _ _ _ _ hend.out)
    have hB2 := Lib.hid hendB.out
    clear hend hendB
    refine q.out.mono ?_
    rintro e u1 ⟨rfl, b1, a2, c2, v2, m2, hT⟩
    have q2 := Lib.hid (ih2'.out _ _ _ _ _ _ hT)
    have hB3 := Lib.hid (hB2.out.trans b1)
    clear b1 hT q hB2
    go_wp2_with fail
    refine q2.out.mono ?_
    rintro e u2 ⟨rfl, b2, a3, c3, v3, m3, hT⟩
    have hf := Lib.hid (And.intro (hB3.out.trans b2) hT)
    clear b2 hT q2 hB3
    go_wp2
    go_end0
    exact ⟨rfl, hf.out.1, _, _, _, _, hf.out.2⟩
  · have tc0 : (VD).cell? ⟨gt, 0, none⟩ = some (.int .i64 4) := hall.out.2.1.cell 0
    have tc1 : (VD).cell? ⟨gt, 1, none⟩ = some (.int .i64 t0.fld) := hall.out.2.1.cell 1
    have tc2 : (VD).cell? ⟨gt, 2, none⟩ = some (.int .i64 t0.rel) := hall.out.2.1.cell 2
    have tc3 : (VD).cell? ⟨gt, 3, none⟩ = some (.int .i64 t0.num) := hall.out.2.1.cell 3
    have tc4 : (VD).cell? ⟨gt, 4, none⟩ = some (.string t0.txt) := hall.out.2.1.cell 4
    go_simp
    clear tc0 tc1 tc2 tc3 tc4
    refine hK.out _ _ (hHeld) (fun hHeld => ?_)
    clear hK K
    try simp only [Act.put, List.setIfInBounds_toArray, List.set_cons_zero, List.set_cons_succ]
    refine wpAnyH_ready (rs := [4, 6]) (by kernel_rfl) (by simp) ?_
    refine AllReadyH.cons (o := ⟨_, _, _, _, _, _⟩) rfl (fun K hK => ?_) (AllReadyH.cons (o := ⟨_, _, _, _, _, _⟩) rfl (fun K hK => ?_) AllReadyH.nil)
    · have c4 : (VD).cell? ⟨g, 1, none⟩ = some (.slice a0 m c0) := by first | exact (hbx.out.1.blk).cell 1 | exact hall.out.1.blk.cell 1
      go_simp
      refine hK.out _ _ (hHeld) (fun hHeld => ?_)
      clear hK K
      try simp only [Act.put, List.setIfInBounds_toArray, List.set_cons_zero, List.set_cons_succ]
      refine wpAnyH_ready (rs := [6]) (by kernel_rfl) (by simp) ?_
      refine AllReadyH.cons (o := ⟨_, _, _, _, _, _⟩) rfl (fun K hK => ?_) AllReadyH.nil
      have hx6 : ∃ u, Holds (VD.alloc (.cells #[.int .i64 4, .int .i64 t0.fld, .int .i64 t0.rel, .int .i64 t0.num, .string t0.txt] 38)) g 52 #[.slice a' (n - 1) (c - 1), u] := ⟨_, hall.out.1.blk.alloc _⟩
      have hbx : Hid (TB (VD.alloc (.cells #[.int .i64 4, .int .i64 t0.fld, .int .i64 t0.rel, .int .i64 t0.num, .string t0.txt] 38)) g a' (n - 1) (c - 1) R (.slice a0 m c0) (m) (O) ∧ SeesC (VD.alloc (.cells #[.int .i64 4, .int .i64 t0.fld, .int .i64 t0.rel, .int .i64 t0.num, .string t0.txt] 38)).heap.size (VD.alloc (.cells #[.int .i64 4, .int .i64 t0.fld, .int .i64 t0.rel, .int .i64 t0.num, .string t0.txt] 38)) (some ⟨VD.heap.size, 0, none⟩) (tmC (⟨4, t0.fld, t0.rel, t0.num, t0.txt⟩ : TmD)) ∧ Below g w (VD.alloc (.cells #[.int .i64 4, .int .i64 t0.fld, .int .i64 t0.rel, .int .i64 t0.num, .string t0.txt] 38))) := Lib.hid ⟨tb_alloc hall.out.1 _, seesC_lit VD 38 #[.int .i64 4, .int .i64 t0.fld, .int .i64 t0.rel, .int .i64 t0.num, .string t0.txt], below_allocB hall.out.2.2 (Nat.le_of_lt hall.out.1.blk.lt) _⟩
      go_simp
      generalize VD.alloc (.cells #[.int .i64 4, .int .i64 t0.fld, .int .i64 t0.rel, .int .i64 t0.num, .string t0.txt] 38) = V6 at *
      generalize VD.heap.size = g6 at *
      refine hK.out _ _ (hx6) (fun hHeld => ?_)
      clear hK K
      try simp only [Act.put, List.setIfInBounds_toArray, List.set_cons_zero, List.set_cons_succ]
      refine wpAnyH_ready (rs := [7]) (by kernel_rfl) (by simp) ?_
      refine AllReadyH.cons (o := ⟨_, _, _, _, _, _⟩) rfl (fun K hK => ?_) AllReadyH.nil
      refine wp_append_cellsB _ (.tmp 60) (.tmp 62) 22 rfl (g + 1) 38 i0 z0 5 48 Tryd.underlying22 hi hz h5 h48 hz5 (by decide) (.slice a0 m c0) (m) (tmcells (O)) hbx.out.1.own (hbx.out.1.blk.lt) _ (some ⟨g6, 0, none⟩) 1 1 (tmC (⟨4, t0.fld, t0.rel, t0.num, t0.txt⟩ : TmD)) rfl hbx.out.2.1 (fun u hu => tmcells_one (l := [(⟨4, t0.fld, t0.rel, t0.num, t0.txt⟩ : TmD)]) (by simpa [tmcells] using hu)) rfl rfl (by simp [maxLen]; omega) (by omega) ?_
      intro v7 W7 own7 grow7
      obtain ⟨a7, c7, rfl, -, -, -⟩ := seesC_own own7
      have hx7 : ∃ u, Holds W7 g 52 #[.slice a' (n - 1) (c - 1), u] := ⟨_, holds_grown hbx.out.1.blk grow7 (tb_not hbx.out.1)⟩
      have hend := Lib.hid (tb_told (t := (⟨4, t0.fld, t0.rel, t0.num, t0.txt⟩ : TmD)) hbx.out.1 own7 grow7)
      have hendB := Lib.hid (tb_told_below (v' := .slice a7 (m + 1) c7) hbx.out.1 hbx.out.2.2 grow7)
      have hH7 := Lib.hid (holds_grown hbx.out.1.blk grow7 (tb_not hbx.out.1))
      clear own7 grow7
      refine hK.out _ _ (hx7) (fun hHeld => ?_)
      clear hK K
      refine wT 8 (v := ?v57) rfl (by kernel_rfl) (fun _ _ _ h => h) ?h57 (by assumption) ?r57
      case h57 => (intro w hSw; (try dsimp only at hSw); go_simp; try with_reducible rfl)
      refine wT 9 (v := ?v58) rfl (by kernel_rfl) (fun _ _ _ h => h) ?h58 (by assumption) ?r58
      case h58 => (intro w hSw; (try dsimp only at hSw); go_simp; try with_reducible rfl)
      try simp only [Act.put, List.setIfInBounds_toArray, List.set_cons_zero, List.set_cons_succ]
      refine wpAnyH_ready (rs := [10]) (by kernel_rfl) (by simp) ?_
      refine AllReadyH.cons (o := ⟨_, _, _, _, _, _⟩) rfl (fun K hK => ?_) AllReadyH.nil
      have c10 := hH7.out.cell 1
      have f10 := hH7.out.free 1
      simp at c10
      go_simp
      refine hK.out _ _ (⟨_, hend.out.blk⟩) (fun hHeld => ?_)
      clear hK K
      try simp only [Act.put, List.setIfInBounds_toArray, List.set_cons_zero, List.set_cons_succ]
      refine wpAnyH_done (by kernel_rfl) ?_ _
      clear hHeld hx6 hx7 hbx hH7 c4 c10 f10
      go_wp2_with fail
      have q := Lib.hid (ih1'.out _ _ _ _ _ _ hend.out)
      have hB2 := Lib.hid hendB.out
      clear hend hendB
      refine q.out.mono ?_
      rintro e u1 ⟨rfl, b1, a2, c2, v2, m2, hT⟩
      have q2 := Lib.hid (ih2'.out _ _ _ _ _ _ hT)
      have hB3 := Lib.hid (hB2.out.trans b1)
      clear b1 hT q hB2
      go_wp2_with fail
      refine q2.out.mono ?_
      rintro e u2 ⟨rfl, b2, a3, c3, v3, m3, hT⟩
      have hf := Lib.hid (And.intro (hB3.out.trans b2) hT)
      clear b2 hT q2 hB3
      go_wp2
      go_end0
      exact ⟨rfl, hf.out.1, _, _, _, _, hf.out.2⟩
    · have hx6 : ∃ u, Holds (VD.alloc (.cells #[.int .i64 4, .int .i64 t0.fld, .int .i64 t0.rel, .int .i64 t0.num, .string t0.txt] 38)) g 52 #[.slice a' (n - 1) (c - 1), u] := ⟨_, hall.out.1.blk.alloc _⟩
      have hbx : Hid (TB (VD.alloc (.cells #[.int .i64 4, .int .i64 t0.fld, .int .i64 t0.rel, .int .i64 t0.num, .string t0.txt] 38)) g a' (n - 1) (c - 1) R (.slice a0 m c0) (m) (O) ∧ SeesC (VD.alloc (.cells #[.int .i64 4, .int .i64 t0.fld, .int .i64 t0.rel, .int .i64 t0.num, .string t0.txt] 38)).heap.size (VD.alloc (.cells #[.int .i64 4, .int .i64 t0.fld, .int .i64 t0.rel, .int .i64 t0.num, .string t0.txt] 38)) (some ⟨VD.heap.size, 0, none⟩) (tmC (⟨4, t0.fld, t0.rel, t0.num, t0.txt⟩ : TmD)) ∧ Below g w (VD.alloc (.cells #[.int .i64 4, .int .i64 t0.fld, .int .i64 t0.rel, .int .i64 t0.num, .string t0.txt] 38))) := Lib.hid ⟨tb_alloc hall.out.1 _, seesC_lit VD 38 #[.int .i64 4, .int .i64 t0.fld, .int .i64 t0.rel, .int .i64 t0.num, .string t0.txt], below_allocB hall.out.2.2 (Nat.le_of_lt hall.out.1.blk.lt) _⟩
      go_simp
      generalize VD.alloc (.cells #[.int .i64 4, .int .i64 t0.fld, .int .i64 t0.rel, .int .i64 t0.num, .string t0.txt] 38) = V6 at *
      generalize VD.heap.size = g6 at *
      refine hK.out _ _ (hx6) (fun hHeld => ?_)
      clear hK K
      try simp only [Act.put, List.setIfInBounds_toArray, List.set_cons_zero, List.set_cons_succ]
      refine wpAnyH_ready (rs := [4]) (by kernel_rfl) (by simp) ?_
      refine AllReadyH.cons (o := ⟨_, _, _, _, _, _⟩) rfl (fun K hK => ?_) AllReadyH.nil
      have c4 : (V6).cell? ⟨g, 1, none⟩ = some (.slice a0 m c0) := by first | exact (hbx.out.1.blk).cell 1 | exact hall.out.1.blk.cell 1
      go_simp
      refine hK.out _ _ (hHeld) (fun hHeld => ?_)
      clear hK K
      try simp only [Act.put, List.setIfInBounds_toArray, List.set_cons_zero, List.set_cons_succ]
      refine wpAnyH_ready (rs := [7]) (by kernel_rfl) (by simp) ?_
      refine AllReadyH.cons (o := ⟨_, _, _, _, _, _⟩) rfl (fun K hK => ?_) AllReadyH.nil
      refine wp_append_cellsB _ (.tmp 60) (.tmp 62) 22 rfl (g + 1) 38 i0 z0 5 48 Tryd.underlying22 hi hz h5 h48 hz5 (by decide) (.slice a0 m c0) (m) (tmcells (O)) hbx.out.1.own (hbx.out.1.blk.lt) _ (some ⟨g6, 0, none⟩) 1 1 (tmC (⟨4, t0.fld, t0.rel, t0.num, t0.txt⟩ : TmD)) rfl hbx.out.2.1 (fun u hu => tmcells_one (l := [(⟨4, t0.fld, t0.rel, t0.num, t0.txt⟩ : TmD)]) (by simpa [tmcells] using hu)) rfl rfl (by simp [maxLen]; omega) (by omega) ?_
      intro v7 W7 own7 grow7
      obtain ⟨a7, c7, rfl, -, -, -⟩ := seesC_own own7
      have hx7 : ∃ u, Holds W7 g 52 #[.slice a' (n - 1) (c - 1), u] := ⟨_, holds_grown hbx.out.1.blk grow7 (tb_not hbx.out.1)⟩
      have hend := Lib.hid (tb_told (t := (⟨4, t0.fld, t0.rel, t0.num, t0.txt⟩ : TmD)) hbx.out.1 own7 grow7)
      have hendB := Lib.hid (tb_told_below (v' := .slice a7 (m + 1) c7) hbx.out.1 hbx.out.2.2 grow7)
      have hH7 := Lib.hid (holds_grown hbx.out.1.blk grow7 (tb_not hbx.out.1))
      clear own7 grow7
      refine hK.out _ _ (hx7) (fun hHeld => ?_)
      clear hK K
      refine wT 8 (v := ?v59) rfl (by kernel_rfl) (fun _ _ _ h => h) ?h59 (by assumption) ?r59
      case h59 => (intro w hSw; (try dsimp only at hSw); go_simp; try with_reducible rfl)
      refine wT 9 (v := ?v60) rfl (by kernel_rfl) (fun _ _ _ h => h) ?h60 (by assumption) ?r60
      case h60 => (intro w hSw; (try dsimp only at hSw); go_simp; try with_reducible rfl)
      try simp only [Act.put, List.setIfInBounds_toArray, List.set_cons_zero, List.set_cons_succ]
      refine wpAnyH_ready (rs := [10]) (by kernel_rfl) (by simp) ?_
      refine AllReadyH.cons (o := ⟨_, _, _, _, _, _⟩) rfl (fun K hK => ?_) AllReadyH.nil
      have c10 := hH7.out.cell 1
      have f10 := hH7.out.free 1
      simp at c10
      go_simp
      refine hK.out _ _ (⟨_, hend.out.blk⟩) (fun hHeld => ?_)
      clear hK K
      try simp only [Act.put, List.setIfInBounds_toArray, List.set_cons_zero, List.set_cons_succ]
      refine wpAnyH_done (by kernel_rfl) ?_ _
      clear hHeld hx6 hx7 hbx hH7 c4 c10 f10
      go_wp2_with fail
      have q := Lib.hid (ih1'.out _ _ _ _ _ _ hend.out)
      have hB2 := Lib.hid hendB.out
      clear hend hendB
      refine q.out.mono ?_
      rintro e u1 ⟨rfl, b1, a2, c2, v2, m2, hT⟩
      have q2 := Lib.hid (ih2'.out _ _ _ _ _ _ hT)
      have hB3 := Lib.hid (hB2.out.trans b1)
      clear b1 hT q hB2
      go_wp2_with fail
      refine q2.out.mono ?_
      rintro e u2 ⟨rfl, b2, a3, c3, v3, m3, hT⟩
      have hf := Lib.hid (And.intro (hB3.out.trans b2) hT)
      clear b2 hT q2 hB3
      go_wp2
      go_end0
      exact ⟨rfl, hf.out.1, _, _, _, _, hf.out.2⟩
theorem notT_ser_len : ∀ (f : FT) (b : Bool), (notT b f).ser.length ≤ 2 * f.ser.length
  | .leaf t, false => by simp [notT, FT.ser]
  | .leaf t, true => by simp [notT, FT.ser]
  | .neg x, b => by
    have := notT_ser_len x (!b)
    cases b <;> simp only [notT, FT.ser, List.length_cons, Bool.not_true, Bool.not_false] at this ⊢ <;> omega
  | .bin o x y, b => by
    have h1 := notT_ser_len x b
    have h2 := notT_ser_len y b
    cases b <;> simp only [notT, FT.ser, List.length_cons, List.length_append] at h1 h2 ⊢ <;> omega
theorem turn_any (g : Nat) : ∀ (f : FT), f.good → ∀ (b0 : Bool) (w : World) (a : Option Addr) (n c : Nat) (R : List TmD) (v : Value) (m : Nat) (O : List TmD), TB w g a n c (f.ser ++ R) v m O → O.length + 2 * f.ser.length ≤ 100000 →
    Calls Tryd.prog 28 #[.pointer (some ⟨g, 0, none⟩), .bool b0] w (TurnE w g R (O ++ (notT b0 f).ser)) ∧ (notT b0 f).ser.length ≤ 2 * f.ser.length
  | .leaf t, hf, false, w, a, n, c, R, v, m, O, h, hb => ⟨turn_leaf w g a n c t R v m O h hf.2 (by have := h.olen; omega), by simp [notT, FT.ser]⟩
  | .leaf t, hf, true, w, a, n, c, R, v, m, O, h, hb => ⟨turn_leafn w g a n c t R v m O h hf.2 (by have := h.olen; omega), by simp [notT, FT.ser]⟩
  | .neg x, hf, b0, w, a, n, c, R, v, m, O, h, hb => by
    have hx : (FT.neg x).ser.length = x.ser.length + 1 := by simp [FT.ser]
    have e : notT b0 (.neg x) = notT (!b0) x := by cases b0 <;> rfl
    rw [e]
    refine ⟨turn_neg w g a n c (opT 3) (x.ser ++ R) v m O b0 R _ h rfl (fun W a' n' c' v' m' hT => (turn_any g x hf (!b0) W a' n' c' R v' m' O hT (by omega)).1), ?_⟩
    have := (turn_any g x hf (!b0) w a (n - 1) c)
    have h2 := notT_ser_len x (!b0)
    omega
  | .bin o x y, hf, b0, w, a, n, c, R, v, m, O, h, hb => by
    obtain ⟨ho, hx, hy⟩ := hf
    have hl : (FT.bin o x y).ser.length = x.ser.length + y.ser.length + 1 := by simp [FT.ser]
    have l1 := notT_ser_len x b0
    have l2 := notT_ser_len y b0
    have hm := h.olen
    have hTB : TB w g a n c (opT o :: (x.ser ++ (y.ser ++ R))) v m O := by
      have : (FT.bin o x y).ser ++ R = opT o :: (x.ser ++ (y.ser ++ R)) := by simp [FT.ser]
      rw [← this]; exact h
    have no : ∀ k, (O ++ (FT.bin k (notT b0 x) (notT b0 y)).ser) = ((O ++ [opT k]) ++ (notT b0 x).ser) ++ (notT b0 y).ser := fun k => by simp [FT.ser]
    refine ⟨?_, by cases b0 <;> simp [notT, FT.ser] <;> omega⟩
    have i1 : ∀ (k : Int) W a' n' c' v' m', TB W g a' n' c' (x.ser ++ (y.ser ++ R)) v' m' (O ++ [opT k]) → Calls Tryd.prog 28 #[.pointer (some ⟨g, 0, none⟩), .bool b0] W (TurnE W g (y.ser ++ R) ((O ++ [opT k]) ++ (notT b0 x).ser)) := fun k W a' n' c' v' m' hT => (turn_any g x hx b0 W a' n' c' (y.ser ++ R) v' m' (O ++ [opT k]) hT (by simp; omega)).1
    have i2 : ∀ (k : Int) W a' n' c' v' m', TB W g a' n' c' (y.ser ++ R) v' m' ((O ++ [opT k]) ++ (notT b0 x).ser) → Calls Tryd.prog 28 #[.pointer (some ⟨g, 0, none⟩), .bool b0] W (TurnE W g R (((O ++ [opT k]) ++ (notT b0 x).ser) ++ (notT b0 y).ser)) := fun k W a' n' c' v' m' hT => (turn_any g y hy b0 W a' n' c' R v' m' _ hT (by simp; omega)).1
    cases b0
    · rw [show notT false (.bin o x y) = .bin o (notT false x) (notT false y) from rfl, no]
      rcases ho with rfl | rfl
      · exact turn_f4 w g a n c (opT 4) _ v m O _ _ _ _ hTB rfl (by omega) (i1 4) (i2 4)
      · exact turn_f5 w g a n c (opT 5) _ v m O _ _ _ _ hTB rfl (by omega) (i1 5) (i2 5)
    · rw [show notT true (.bin o x y) = .bin (9 - o) (notT true x) (notT true y) from rfl, no]
      rcases ho with rfl | rfl
      · exact turn_t4 w g a n c (opT 4) _ v m O _ _ _ _ hTB rfl (by omega) (i1 5) (i2 5)
      · exact turn_t5 w g a n c (opT 5) _ v m O _ _ _ _ hTB rfl (by omega) (i1 4) (i2 4)
end Go.Proofs.YtknnjkhocbpohaaDoor
