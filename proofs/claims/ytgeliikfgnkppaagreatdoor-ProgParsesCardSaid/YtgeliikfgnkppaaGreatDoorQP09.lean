/-
  Words and walks under the law's proof.
-/
import Derived.Deep.DeepCutAuto
import Derived.Test.YtgeliikfgnkppaaGreatDoorQP01
import Derived.Test.YtgeliikfgnkppaaGreatDoorQP02
import Derived.Test.YtgeliikfgnkppaaGreatDoorQP03
import Derived.Test.YtgeliikfgnkppaaGreatDoorQP04
import Derived.Test.YtgeliikfgnkppaaGreatDoorQP08
namespace Go.Proofs.YtgeliikfgnkppaaGreatDoor
open Go.RowKit
set_option linter.unusedVariables false
theorem numS_show {v : Int} (h0 : -1099511627776 < v) (h1 : v < 1099511627776) : numS (Lib.itoa v) = some v := by
  by_cases hv : v < 0
  · obtain ⟨u, rfl⟩ : ∃ u : Nat, v = -(u : Int) := ⟨v.natAbs, by omega⟩
    obtain ⟨e1, e2, _⟩ := show_val u
    have hl := canon_len e2 (by omega)
    rw [Lib.itoa_neg u (by omega), numS_neg (by simp; omega) (by simp [negS]), List.drop_one, List.tail_cons, if_pos e2.2.1, e1]
  · obtain ⟨u, rfl⟩ := Int.eq_ofNat_of_zero_le (show 0 ≤ v by omega)
    obtain ⟨e1, e2, _⟩ := show_val u
    have hl := canon_len e2 (by omega)
    have h2 : negS (Lib.decDigits u) = false := by
      generalize Lib.decDigits u = l at *
      cases l with
      | nil => rfl
      | cons c r =>
        unfold negS
        rw [beq_eq_false_iff_ne]
        intro e
        simp at e
        have h3 := e2.2.1 c (by simp)
        rw [e] at h3
        revert h3; decide
    have h3 : (Lib.decDigits u).length ≠ 0 := fun h => e2.1 (List.eq_nil_of_length_eq_zero h)
    rw [Lib.itoa_nonneg u, numS_pos (by omega) h2, List.drop_zero, if_pos e2.2.1, e1]
theorem num_parse {s : List UInt8} (h1 : numOK s = true) (h2 : -1099511627776 < numN s) (h3 : numN s < 1099511627776) : parseV s = some (numN s) := by
  cases hs : numS s with
  | none => rw [(num_none hs).2] at h1; cases h1
  | some n =>
    obtain ⟨e1, e2⟩ := num_some hs
    rw [e2, decide_eq_true_iff] at h1
    rw [e1] at h2 h3 ⊢
    refine (parseV_iff s n).2 ⟨by omega, ?_⟩
    rw [show_mid (by omega) (by omega), h1]
theorem num_no_parse {s : List UInt8} (hi : s ≠ infT) (hn : s ≠ ninfT) (h : numOK s = false ∨ numN s ≤ -1099511627776 ∨ 1099511627776 ≤ numN s) : parseV s = none := by
  cases hp : parseV s with
  | none => rfl
  | some v =>
    exfalso
    obtain ⟨⟨a, b⟩, hv⟩ := (parseV_iff s v).1 hp
    have n1 : v ≠ 1099511627776 := fun e => hi (by rw [← hv, show_max e])
    have n2 : v ≠ -1099511627776 := fun e => hn (by rw [← hv, show_min e])
    rw [show_mid n1 n2] at hv
    have hs := numS_show (v := v) (by omega) (by omega)
    rw [hv] at hs
    obtain ⟨e1, e2⟩ := num_some hs
    rw [e1, e2] at h
    rcases h with h | h | h
    · rw [decide_eq_false_iff_not] at h; exact h hv
    · omega
    · omega
theorem parse_of_some {s : List UInt8} {v : Int} (h : parseV s = some v) : parseN s = v ∧ (parseV s).isSome = true := by unfold parseN; rw [h]; exact ⟨rfl, rfl⟩
theorem parse_of_none {s : List UInt8} (h : parseV s = none) : parseN s = 0 ∧ (parseV s).isSome = false := by unfold parseN; rw [h]; exact ⟨rfl, rfl⟩
set_option maxHeartbeats 1000000 in
theorem refparse_any (s : ByteArray) (hm : s.size ≤ 1000) (w : World) : Calls Tryz.prog 54 #[.string s] w fun e w' => e = .returned (.tuple #[.int .i64 (parseN s.data.toList), .bool (parseV s.data.toList).isSome]) ∧ w = w' := by
  have htl : s.toList = s.data.toList := ByteArray.toList_eq ..
  by_cases hinf : s.data.toList = infT
  · have hv := Lib.hid (parse_of_some (show parseV s.data.toList = some 1099511627776 by rw [hinf]; decide +kernel))
    have h1 : (s.toList == [105, 110, 102]) = true := by rw [htl, hinf]; rfl
    generalize parseN s.data.toList = N at *
    generalize (parseV s.data.toList).isSome = V at *
    clear hinf htl
    go_enter Tryz.func54, Tryz.ntmps54
    go_wp2
    go_ret2
    exact ⟨by rw [hv.out.1, hv.out.2]; rfl, rfl⟩
  · have h1 : (s.toList == [105, 110, 102]) = false := by rw [htl, beq_eq_false_iff_ne]; exact hinf
    by_cases hninf : s.data.toList = ninfT
    · have hv := Lib.hid (parse_of_some (show parseV s.data.toList = some (-1099511627776) by rw [hninf]; decide +kernel))
      have h2 : (s.toList == [45, 105, 110, 102]) = true := by rw [htl, hninf]; rfl
      generalize parseN s.data.toList = N at *
      generalize (parseV s.data.toList).isSome = V at *
      clear hinf hninf htl
      go_enter Tryz.func54, Tryz.ntmps54
      go_wp2
      go_ret2
      exact ⟨by rw [hv.out.1, hv.out.2]; rfl, rfl⟩
    · have h2 : (s.toList == [45, 105, 110, 102]) = false := by rw [htl, beq_eq_false_iff_ne]; exact hninf
      have hnum := Lib.hid (fun w => number_any s hm w)
      have hyes := fun h1 h2 h3 => parse_of_some (num_parse (s := s.data.toList) h1 h2 h3)
      have hno := fun h => parse_of_none (num_no_parse hinf hninf h)
      generalize parseN s.data.toList = N at *
      generalize (parseV s.data.toList).isSome = V at *
      generalize numN s.data.toList = n at *
      generalize numOK s.data.toList = ok at *
      clear hinf hninf htl
      cases ok
      · have hv := Lib.hid (hno (.inl rfl))
        clear hyes hno
        go_enter Tryz.func54, Tryz.ntmps54
        go_wp2_with fail
        refine (hnum.out _).mono ?_
        rintro e w' ⟨rfl, rfl⟩
        go_wp2
        go_ret2
        exact ⟨by rw [hv.out.1, hv.out.2]; rfl, rfl⟩
      · by_cases hlo : n ≤ -1099511627776
        · have hv := Lib.hid (hno (.inr (.inl hlo)))
          have d1 : decide (n ≤ -1099511627776) = true := by simp; omega
          clear hyes hno
          go_enter Tryz.func54, Tryz.ntmps54
          go_wp2_with fail
          refine (hnum.out _).mono ?_
          rintro e w' ⟨rfl, rfl⟩
          go_wp2
          go_ret2
          exact ⟨by rw [hv.out.1, hv.out.2]; rfl, rfl⟩
        · have d1 : decide (n ≤ -1099511627776) = false := by simp; omega
          by_cases hhi : 1099511627776 ≤ n
          · have hv := Lib.hid (hno (.inr (.inr hhi)))
            have d2 : decide (1099511627776 ≤ n) = true := by simp; omega
            clear hyes hno
            go_enter Tryz.func54, Tryz.ntmps54
            go_wp2_with fail
            refine (hnum.out _).mono ?_
            rintro e w' ⟨rfl, rfl⟩
            go_wp2
            go_ret2
            exact ⟨by rw [hv.out.1, hv.out.2]; rfl, rfl⟩
          · have hv := Lib.hid (hyes rfl (by omega) (by omega))
            have d2 : decide (1099511627776 ≤ n) = false := by simp; omega
            clear hyes hno
            go_enter Tryz.func54, Tryz.ntmps54
            go_wp2_with fail
            refine (hnum.out _).mono ?_
            rintro e w' ⟨rfl, rfl⟩
            go_wp2
            go_ret2
            exact ⟨by rw [hv.out.1, hv.out.2]; rfl, rfl⟩
end Go.Proofs.YtgeliikfgnkppaaGreatDoor
namespace Go.Proofs.YtgeliikfgnkppaaGreatDoor
open Go.RowKit
set_option linter.unusedVariables false
set_option linter.unusedSimpArgs false
def stC (p : St) : List Value := [.int .i64 p.1, .int .i64 p.2.1, .int .i64 p.2.2.1, .int .i64 p.2.2.2.1, .int .i64 p.2.2.2.2]
theorem stC_len (p : St) : (stC p).length = 5 := rfl
def stCs (l : List St) : List Value := l.flatMap stC
theorem stCs_add (a b : List St) : stCs (a ++ b) = stCs a ++ stCs b := by simp [stCs]
theorem stCs_len (l : List St) : (stCs l).length = l.length * 5 := flat_len stC_len l
theorem stCs_one (l : List St) : ∀ u ∈ stCs l, u.oneCell' = true := by
  intro u hu
  unfold stCs at hu
  rw [List.mem_flatMap] at hu
  obtain ⟨p, _, hp⟩ := hu
  unfold stC at hp
  simp at hp
  rcases hp with rfl | rfl | rfl | rfl | rfl <;> rfl
def stZ : Value := .agg #[.int .i64 0, .int .i64 0, .int .i64 0, .int .i64 0, .int .i64 0]
theorem infoStmtP : (Tryz.prog.info? 38).map (fun i => (i.zero, i.size, i.bytes)) = some (some stZ, 5, 40) := by kernel_rfl
theorem infoStmtQ : ∃ i, Tryz.prog.info? 38 = some i ∧ i.zero = some stZ ∧ i.size = 5 ∧ i.bytes = 40 := by
  have h := infoStmtP
  cases hi : Tryz.prog.info? 38 with
  | none => rw [hi] at h; simp at h
  | some i => rw [hi] at h; simp at h; exact ⟨i, rfl, h.1, h.2.1, h.2.2⟩
theorem wpList_append_st (w0 W : World) {ops : Array Oper} {rest : List Oper} {o : Oper} {a : Act} {Q : Exit → Act → World → Prop}
    (hg : o.guard = none) (s x : Operand) (hop : o.op = Op.call { callee := Callee.builtin Builtin.append, args := #[s, x], argTypes := #[86, 86] })
    (v : Value) (gs : List St) (hown : W.ownsRow w0.heap.size 38 5 v gs.length (stCs gs)) (hb : Below w0.heap.size w0 W) (news : List St) (lits : Array Value) (hl : lits = (stCs news).toArray) (m : Nat) (hm : m = news.length)
    (hs : a.eval s = v) (hx : a.eval x = .slice (some ⟨W.heap.size, 0, none⟩) m m) (hn : gs.length + m ≤ 1000)
    (hK : ∀ v' w', w'.ownsRow w0.heap.size 38 5 v' (gs ++ news).length (stCs (gs ++ news)) → Below w0.heap.size w0 w' → wpList Tryz.prog ops Q rest (a.put o.dst v') w') :
    wpList Tryz.prog ops Q (o :: rest) a (W.alloc (.cells lits 38)) := by
  obtain ⟨i0, hi, hz0, hz1, hz2⟩ := infoStmtQ
  subst hl hm
  refine wpList_append_cellsB _ hg s x 86 hop w0 38 i0 stZ 5 40 Tryz.underlying86 hi hz0 hz1 hz2 rfl (by omega) v gs.length (stCs gs) (own_below hown (box_below W _ _)) (hb.trans ((box_below W _ _).mono hb.size)) _ _ news.length news.length (stCs news) (by rw [stCs_len]) (by have q := seesC_lit W 38 (stCs news).toArray; simpa using q) (stCs_one _) hs hx (by unfold maxLen; omega) (by omega) ?_
  intro v' w' o2 b2
  rw [← stCs_add] at o2
  exact hK v' w' (by rw [List.length_append]; exact o2) b2
theorem wp_append_st (w0 W : World) {o : Oper} {a : Act} {K : Act → World → Prop} {Q : Exit → Act → World → Prop}
    (s x : Operand) (hop : o.op = Op.call { callee := Callee.builtin Builtin.append, args := #[s, x], argTypes := #[86, 86] })
    (v : Value) (gs : List St) (hown : W.ownsRow w0.heap.size 38 5 v gs.length (stCs gs)) (hb : Below w0.heap.size w0 W) (news : List St) (lits : Array Value) (hl : lits = (stCs news).toArray) (m : Nat) (hm : m = news.length)
    (hs : a.eval s = v) (hx : a.eval x = .slice (some ⟨W.heap.size, 0, none⟩) m m) (hn : gs.length + m ≤ 1000)
    (hK : ∀ v' w', w'.ownsRow w0.heap.size 38 5 v' (gs ++ news).length (stCs (gs ++ news)) → Below w0.heap.size w0 w' → K (a.put o.dst v') w') :
    o.wp Tryz.prog a (W.alloc (.cells lits 38)) K Q := by
  obtain ⟨i0, hi, hz0, hz1, hz2⟩ := infoStmtQ
  subst hl hm
  have hb1 := hb.trans ((box_below W (stCs news).toArray 38).mono hb.size)
  refine wp_append_cellsB _ s x 86 hop w0.heap.size 38 i0 stZ 5 40 Tryz.underlying86 hi hz0 hz1 hz2 rfl (by omega) v gs.length (stCs gs) (own_below hown (box_below W _ _)) hb1.size _ _ news.length news.length (stCs news) (by rw [stCs_len]) (by have q := seesC_lit W 38 (stCs news).toArray; simpa using q) (stCs_one _) hs hx (by unfold maxLen; omega) (by omega) ?_
  intro v' w' o2 g2
  rw [← stCs_add] at o2
  exact hK v' w' (by rw [List.length_append]; exact o2) (hb1.grown g2 hb1.size fun k hk => (hown.lt k hk).1)
theorem stmt_res2 {fn : Func} {p q : Tmp} (h : fn.results = #[.cell p 38, .tmp q]) (tmps : Array Value) (w : World) (g : Nat) (k x y c d : Int) (u : Value)
    (hp : tmps.getD p undef = .pointer (some ⟨g, 0, none⟩)) (hq : tmps.getD q undef = u) (hg : Holds w g 38 #[.int .i64 k, .int .i64 x, .int .i64 y, .int .i64 c, .int .i64 d]) : (results fn tmps).run Tryz.prog w = .ok (.tuple #[.agg #[.int .i64 k, .int .i64 x, .int .i64 y, .int .i64 c, .int .i64 d], u]) w := by
  rw [results_cell_tmp h, hp, hq]
  simp [asAddr, run_loadVar_row w g 38 38 #[.int .i64 k, .int .i64 x, .int .i64 y, .int .i64 c, .int .i64 d] (0, 0) _ hg Tryz.underlying38 rfl (by first | (rw [info_stmt']; rfl) | exact info_stmt'), Result.andThen]
theorem stmt_ret2 {Q : Ending → World → Prop} {w : World} {g : Nat} {k x y c d : Int} {u : Value} (hg : Holds w g 38 #[.int .i64 k, .int .i64 x, .int .i64 y, .int .i64 c, .int .i64 d]) (hQ : Q (.returned (.tuple #[.agg #[.int .i64 k, .int .i64 x, .int .i64 y, .int .i64 c, .int .i64 d], u])) w) (act : Act) (f : Func) (n m : Nat) (hf : f.results = #[.cell n 38, .tmp m]) (ha : act.tmps.getD n undef = .pointer (some ⟨g, 0, none⟩)) (hm : act.tmps.getD m undef = u) (hd : act.defers = []) :
    bodyPost Tryz.prog f Q Exit.ret act w :=
  bodyPost_ret (stmt_res2 hf _ _ g k x y c d u ha hm hg) hd hQ
theorem belS {B : Nat} {a w : World} (h : Below B a w) {g : Nat} (hg : B ≤ g) (k x y c d : Int) : Below B a (((((w.setCell ⟨g, 0, none⟩ (.int .i64 k)).setCell ⟨g, 1, none⟩ (.int .i64 x)).setCell ⟨g, 2, none⟩ (.int .i64 y)).setCell ⟨g, 3, none⟩ (.int .i64 c)).setCell ⟨g, 4, none⟩ (.int .i64 d)) :=
  ((((h.setCell (p := ⟨g, 0, none⟩) hg _).setCell (p := ⟨g, 1, none⟩) hg _).setCell (p := ⟨g, 2, none⟩) hg _).setCell (p := ⟨g, 3, none⟩) hg _).setCell (p := ⟨g, 4, none⟩) hg _
theorem guess3_len (l w : List ByteArray) (last : Int) : (guess3 l w last).length ≤ 4 := by unfold guess3; split <;> simp
theorem guess5_len (l w : List ByteArray) : (guess5 l w).length ≤ 1 := by unfold guess5; split <;> (try split) <;> simp
theorem guess4_len (l w : List ByteArray) (last k : Int) : (guess4 l w last k).length ≤ 3 := by
  unfold guess4
  rw [List.length_append]
  split <;> (try split) <;> (try split) <;> simp
def gK (l w : List ByteArray) (last k : Int) : List St := [(1, 0, 0, 0, 0)] ++ guess3 l w last ++ guess5 l w ++ (if k = 4 then [] else guess4 l w last 4) ++ (if k = 6 then guess4 l w last 5 else [])
theorem gK_next {l w : List ByteArray} {last k : Int} (h : k = 4 ∨ k = 5) : gK l w last (k + 1) = gK l w last k ++ guess4 l w last k := by
  unfold gK
  rcases h with rfl | rfl
  · simp
  · simp
theorem gK_len (l w : List ByteArray) (last k : Int) : (gK l w last k).length ≤ 12 := by
  have h1 := guess3_len l w last
  have h2 := guess5_len l w
  have h3 := guess4_len l w last 4
  have h4 := guess4_len l w last 5
  unfold gK
  simp only [List.length_append, List.length_singleton]
  split <;> split <;> simp <;> omega
theorem gK_end (l : List ByteArray) (s : ByteArray) {m : Nat} (h : (splitB s).length = m + 1) : gK l (splitB s) (pN (wd (splitB s) m)) 6 = guessL l s := by
  unfold gK guessL guessW
  rw [h]
  simp
theorem find_none {l : List ByteArray} {s : ByteArray} (h : ∀ j, j < (guessL l s).length → fits l s ((guessL l s).getD j (0, 0, 0, 0, 0)) = false) : rparseP l s = ((0, 0, 0, 0, 0), false) := by
  have : (guessL l s).find? (fits l s) = none := by
    rw [List.find?_eq_none]
    intro p hp
    obtain ⟨j, hj, rfl⟩ := List.getElem_of_mem hp
    have := h j hj
    simp only [List.getD, List.getElem?_eq_getElem hj, Option.getD_some] at this
    simp [this]
  unfold rparseP
  rw [this]
theorem find_first : ∀ {L : List St} {q : St → Bool} {k : Nat}, k < L.length → (∀ j, j < k → q (L.getD j (0, 0, 0, 0, 0)) = false) → q (L.getD k (0, 0, 0, 0, 0)) = true → L.find? q = some (L.getD k (0, 0, 0, 0, 0))
  | [], q, k, hk, _, _ => absurd hk (Nat.not_lt_zero _)
  | p :: L, q, 0, _, _, h => by
    have h' : q p = true := h
    show List.find? q (p :: L) = some p
    rw [List.find?_cons, h']
  | p :: L, q, k + 1, hk, h0, h => by
    have h' : q p = false := h0 0 (by omega)
    have ih := find_first (L := L) (q := q) (k := k) (by simpa using hk) (fun j hj => by have := h0 (j + 1) (by omega); simpa using this) (by simpa using h)
    rw [List.find?_cons, h', ih]
    simp
theorem find_yes {l : List ByteArray} {s : ByteArray} {k : Nat} (hk : k < (guessL l s).length) (h : ∀ j, j < k → fits l s ((guessL l s).getD j (0, 0, 0, 0, 0)) = false) (h2 : fits l s ((guessL l s).getD k (0, 0, 0, 0, 0)) = true) : rparseP l s = ((guessL l s).getD k (0, 0, 0, 0, 0), true) := by
  unfold rparseP
  rw [find_first hk h h2]
theorem st_cells {w : World} {base : Nat} {v : Value} {gs : List St} (h : w.ownsRow base 38 5 v gs.length (stCs gs)) {i : Nat} (hi : i < gs.length) :
    ∃ g cap, v = .slice (some ⟨g, 0, none⟩) gs.length cap ∧ g < w.heap.size ∧ ∀ j, j < 5 → w.cell? ⟨g, i * 5 + j, none⟩ = (stC (gs.getD i (0, 0, 0, 0, 0)))[j]? := by
  rcases h.2 with ⟨_, h0⟩ | ⟨g, cap, cur, rfl, _, hg, _⟩
  · omega
  · refine ⟨g, cap, rfl, (Array.getElem?_eq_some_iff.1 hg).1, fun j hj => ?_⟩
    have h1 : (stCs gs)[i * 5 + j]? = (stC (gs.getD i (0, 0, 0, 0, 0)))[j]? := by
      unfold stCs
      rw [flat_at stC_len gs i j hj]
      simp [List.getD, hi]
    have h2 : j < (stC (gs.getD i (0, 0, 0, 0, 0))).length := hj
    rw [List.getElem?_eq_getElem h2] at h1 ⊢
    have := h.cells (g := g) rfl _ _ h1
    rw [add_at, Nat.zero_add] at this
    exact this
set_option maxRecDepth 100000 in
set_option maxHeartbeats 16000000 in
theorem rparse_any (a : Option Addr) (n cp : Nat) (l : List ByteArray) (hl : ∀ s ∈ l, s.size ≤ 32) (hv : l.length ≤ 8) (s : ByteArray) (hs : s.size ≤ 1000) (w : World) (h : TT w a n cp l) :
    Calls Tryz.prog 26 #[.slice a n cp, .string s] w (Gives (.tuple #[.agg #[.int .i64 (rparseP l s).1.1, .int .i64 (rparseP l s).1.2.1, .int .i64 (rparseP l s).1.2.2.1, .int .i64 (rparseP l s).1.2.2.2.1, .int .i64 (rparseP l s).1.2.2.2.2], .bool (rparseP l s).2]) w) := by
  have hn := Lib.hid h.len
  obtain ⟨W1, hW1⟩ : ∃ W1, W1 = w.alloc (.cells #[.int .i64 0, .int .i64 0, .int .i64 0, .int .i64 0, .int .i64 0] 38) := ⟨_, rfl⟩
  have BL := Lib.hid (show Below w.heap.size w W1 by rw [hW1]; exact box_below _ _ _)
  have HZ : Hid (Holds W1 w.heap.size 38 #[.int .i64 0, .int .i64 0, .int .i64 0, .int .i64 0, .int .i64 0]) := Lib.hid (by rw [hW1]; exact Holds.new w _ _)
  have V := Lib.hid (h.below BL.out)
  have hW1' := Lib.hid hW1
  have hyes := Lib.hid (fun k h1 h2 h3 => find_yes (l := l) (s := s) (k := k) h1 h2 h3)
  have hno := Lib.hid (fun h => find_none (l := l) (s := s) h)
  have qs := Lib.hid (rsplit_any s hs W1)
  clear h hW1
  generalize rparseP l s = R at *
  go_enter Tryz.func26, Tryz.ntmps26
  go_wp2_with fail
  rw [← hW1'.out]
  with_reducible refine qs.out.mono ?_
  rintro e x1 ⟨aw, nw, cw, rfl, hT, b1⟩
  have hnw := Lib.hid hT.len
  obtain ⟨hL1, hL2⟩ := splitB_len s
  obtain ⟨m, hm⟩ : ∃ m, nw = m + 1 := ⟨nw - 1, by have := hnw.out; omega⟩
  have hm' := Lib.hid hm
  have hmr : m ≤ 1000 := by have := hnw.out; omega
  have hnr : nw ≤ 1001 := by omega
  obtain ⟨bw, ow, haw, hbw, hcw0⟩ := hT.at_ (k := 0) (by omega)
  subst haw
  have hcw : Hid (∀ W, Below x1.heap.size x1 W → ∀ i, i < nw → W.cell? ⟨bw, ow + i, none⟩ = some (.string (wd (splitB s) i))) := Lib.hid (fun W hW i hi => (hW.cell (p := ⟨bw, ow + i, none⟩) hbw).trans (hcw0 i (by have := hnw.out; omega)))
  replace HZ := Lib.hid (HZ.out.below b1 HZ.out.lt)
  replace V := Lib.hid (V.out.below b1)
  replace BL := Lib.hid (BL.out.trans (b1.mono BL.out.size))
  have hwz := Lib.hid (fun i => Nat.le_trans (word_sz s i) hs)
  have qn := Lib.hid (fun x W (hW : Below x1.heap.size x1 W) => rnumber_any a n cp l x W (V.out.below hW))
  have hPN : Hid (∀ x : ByteArray, parseN x.data.toList = pN x) := Lib.hid (fun _ => rfl)
  have hPO : Hid (∀ x : ByteArray, (parseV x.data.toList).isSome = pOK x) := Lib.hid (fun _ => rfl)
  have qp : Hid (∀ (x : ByteArray) (hx : x.size ≤ 1000) W, Calls Tryz.prog 54 #[.string x] W (Gives (.tuple #[.int .i64 (pN x), .bool (pOK x)]) W)) := Lib.hid (fun x hx W => (refparse_any x hx W).mono (fun e w' h => ⟨h.1, h.2 ▸ Below.refl _ _⟩))
  have hGE := Lib.hid (gK_end l s (m := m) (by have := hnw.out; omega))
  have hG3 : Hid (guess3 l (splitB s) (pN (wd (splitB s) m)) = if 3 ≤ nw then [(2, numQ l (wd (splitB s) 0), 0, pN (wd (splitB s) m), 0), (2, numQ l (wd (splitB s) 0), numQ l (wd (splitB s) 2), 0, 0), (2, numQ l (wd (splitB s) 0), numQ l (wd (splitB s) 2), pN (wd (splitB s) m), 0), (2, numQ l (wd (splitB s) 0), numQ l (wd (splitB s) 2), -pN (wd (splitB s) m), 0)] else []) := Lib.hid (by unfold guess3; rw [← hnw.out])
  have hG5 : Hid (guess5 l (splitB s) = if nw = 5 then (if pOK (trimB (wd (splitB s) 3)) = true ∧ pOK (trimB (spB ++ wd (splitB s) 4)) = true then [(3, numQ l (wd (splitB s) 0), 0, pN (trimB (wd (splitB s) 3)), pN (trimB (spB ++ wd (splitB s) 4)))] else []) else []) := Lib.hid (by unfold guess5; rw [← hnw.out])
  have hG4 : Hid (∀ k, guess4 l (splitB s) (pN (wd (splitB s) m)) k = (if nw = 4 then (k, numQ l (wd (splitB s) 1), 0, pN (wd (splitB s) m), 0) :: (if 0 < (wd (splitB s) 1).size then [(k, 0, numQ l ((wd (splitB s) 1).extract 1 (wd (splitB s) 1).size), pN (wd (splitB s) m), 0)] else []) else []) ++ (if nw = 6 then [(k, numQ l (wd (splitB s) 1), numQ l (wd (splitB s) 3), pN (wd (splitB s) m), 0)] else [])) := Lib.hid (fun k => by unfold guess4; rw [← hnw.out])
  have hl3 := Lib.hid (guess3_len l (splitB s) (pN (wd (splitB s) m)))
  have hl5 := Lib.hid (guess5_len l (splitB s))
  have hgK := Lib.hid (fun k => gK_len l (splitB s) (pN (wd (splitB s) m)) k)
  have hgN := Lib.hid (fun k h => gK_next (l := l) (w := splitB s) (last := pN (wd (splitB s) m)) (k := k) h)
  have hgS : Hid (gK l (splitB s) (pN (wd (splitB s) m)) 4 = [(1, 0, 0, 0, 0)] ++ guess3 l (splitB s) (pN (wd (splitB s) m)) ++ guess5 l (splitB s)) := Lib.hid (by unfold gK; simp)
  clear hT b1 hL1 hL2 hm qs hW1' hPN hPO hcw0
  have x9 := hcw.out x1 (Below.refl _ _) m (by have := hm'.out; omega)
  have e1 : (nw : Int) - 1 = (m : Int) := by have := hm'.out; omega
  have w1 : IntKind.i64.wrap (m : Int) = (m : Int) := by rw [IntKind.wrap_i64]; omega
  have hmi : (m : Int) < (nw : Int) := by have := hm'.out; omega
  have hlr : -1099511627776 ≤ pN (wd (splitB s) m) ∧ pN (wd (splitB s) m) ≤ 1099511627776 := parseN_le _
  obtain ⟨LA, hLA⟩ : ∃ LA, LA = pN (wd (splitB s) m) := ⟨_, rfl⟩
  obtain ⟨LO, hLO⟩ : ∃ LO, LO = pOK (wd (splitB s) m) := ⟨_, rfl⟩
  have qp9 := Lib.hid (qp.out (wd (splitB s) m) (hwz.out m) x1)
  rw [← hLA, ← hLO] at qp9
  rw [← hLA] at hGE hG3 hG4 hl3 hgK hgN hgS hlr
  clear hLA hLO
  go_wp2_with fail
  with_reducible refine qp9.out.mono ?_
  rintro e x2 ⟨rfl, b2⟩
  have b2' := Lib.hid b2
  have r0 : Hid (x2.ownsRow x1.heap.size 38 5 (.slice none 0 0) ([] : List St).length (stCs [])) := Lib.hid (World.ownsRow_nil _ _ _ _)
  clear x9 e1 w1 hmi qp9 b2
  go_upto_if 37 with (at_builtin; refine wpList_append_st x1 x2 rfl _ _ rfl (.slice none 0 0) (([] : List St)) r0.out b2'.out [((1, 0, 0, 0, 0) : St)] _ rfl 1 rfl rfl rfl (by first | (simp; done) | (have := hGl.out; (try simp only [List.length_append, List.length_cons, List.length_nil]); omega)) ?_; intro v3 x3 o2 b2; have r3 := Lib.hid o2; have b3 := Lib.hid b2; clear o2 b2)
  go_cut [8] (fun v W => W.ownsRow x1.heap.size 38 5 v ([((1, 0, 0, 0, 0) : St)] ++ guess3 l (splitB s) LA).length (stCs ([((1, 0, 0, 0, 0) : St)] ++ guess3 l (splitB s) LA)) ∧ Below x1.heap.size x1 W)
  case first =>
    by_cases h3 : 3 ≤ nw
    · have h3i : (3 : Int) ≤ (nw : Int) := by omega
      rw [if_pos h3] at hG3
      have y0 : ∀ W, Below x3.heap.size x3 W → W.cell? ⟨bw, ow, none⟩ = some (.string (wd (splitB s) 0)) := fun W hW => by have q := hcw.out W (b3.out.trans (hW.mono b3.out.size)) 0 (by omega); rw [Nat.add_zero] at q; exact q
      have y2 : ∀ W, Below x3.heap.size x3 W → W.cell? ⟨bw, ow + 2, none⟩ = some (.string (wd (splitB s) 2)) := fun W hW => hcw.out W (b3.out.trans (hW.mono b3.out.size)) 2 (by omega)
      have z0 : (0 : Int) < (nw : Int) := by omega
      have zn0 : 0 < nw := by omega
      have z2 : (2 : Int) < (nw : Int) := by omega
      have zn2 : 2 < nw := by omega
      have q0 := Lib.hid (fun W hW => qn.out (wd (splitB s) 0) W hW)
      have q2 := Lib.hid (fun W hW => qn.out (wd (splitB s) 2) W hW)
      generalize numQ l (wd (splitB s) 0) = N0 at *
      generalize numQ l (wd (splitB s) 2) = N2 at *
      generalize wd (splitB s) 0 = S0 at *
      generalize wd (splitB s) 2 = S2 at *
      have wn : IntKind.i64.wrap (-LA) = -LA := by rw [IntKind.wrap_i64]; omega
      go_wp2
      refine wp_drawn_on (fun W => Below x3.heap.size x3 W) (by kernel_rfl) ((Below.refl _ _).drew) (fun hHeld => ?_)
      refine wpAnyH_take (i := 0) (oi := { dst := some 38, op := Go.Op.move (Go.Operand.tmp 0), type := 22, pos := "ref.go:215", after := #[], guard := none }) (v := ?v1) rfl (by kernel_rfl) (by kernel_rfl) (by kernel_rfl) (fun _ _ _ h => h) (Or.inl ⟨by kernel_rfl, ?h1⟩) (by assumption) ?r1
      case h1 => (intro w hSw; (try dsimp only at hSw); go_simp; try with_reducible rfl)
      try simp only [Act.put, List.setIfInBounds_toArray, List.set_cons_zero, List.set_cons_succ]
      refine wpAnyH_take (i := 1) (oi := { dst := some 39, op := Go.Op.move (Go.Operand.tmp 6), type := 22, pos := "ref.go:215", after := #[], guard := none }) (v := ?v2) rfl (by kernel_rfl) (by kernel_rfl) (by kernel_rfl) (fun _ _ _ h => h) (Or.inl ⟨by kernel_rfl, ?h2⟩) (by assumption) ?r2
      case h2 => (intro w hSw; (try dsimp only at hSw); go_simp; try with_reducible rfl)
      try simp only [Act.put, List.setIfInBounds_toArray, List.set_cons_zero, List.set_cons_succ]
      refine wpAnyH_take (i := 2) (oi := { dst := some 40, op := Go.Op.indexAddr 22 (Go.Operand.tmp 39) (Go.Operand.const (Go.Value.int Go.IntKind.i64 0)), type := 0, pos := "ref.go:215", after := #[{ on := 1, ground := Go.Ground.data }], guard := none }) (v := ?v3) rfl (by kernel_rfl) (by kernel_rfl) (by kernel_rfl) (fun _ _ _ h => h) (Or.inl ⟨by kernel_rfl, ?h3⟩) (by assumption) ?r3
      case h3 => (intro w hSw; (try dsimp only at hSw); go_simp; try with_reducible rfl)
      try simp only [Act.put, List.setIfInBounds_toArray, List.set_cons_zero, List.set_cons_succ]
      refine wpAnyH_take (i := 3) (oi := { dst := some 41, op := Go.Op.load 9 (Go.Operand.tmp 40), type := 9, pos := "ref.go:215", after := #[{ on := 2, ground := Go.Ground.data }], guard := none }) (v := ?v4) rfl (by kernel_rfl) (by kernel_rfl) (by kernel_rfl) (fun _ _ _ h => h) (Or.inl ⟨by kernel_rfl, ?h4⟩) (by assumption) ?r4
      case h4 => (intro w hSw; (try dsimp only at hSw); go_simp; try with_reducible rfl)
      try simp only [Act.put, List.setIfInBounds_toArray, List.set_cons_zero, List.set_cons_succ]
      refine wpAnyH_take (i := 5) (oi := { dst := some 43, op := Go.Op.move (Go.Operand.tmp 0), type := 22, pos := "ref.go:215", after := #[], guard := none }) (v := ?v5) rfl (by kernel_rfl) (by kernel_rfl) (by kernel_rfl) (fun _ _ _ h => h) (Or.inl ⟨by kernel_rfl, ?h5⟩) (by assumption) ?r5
      case h5 => (intro w hSw; (try dsimp only at hSw); go_simp; try with_reducible rfl)
      try simp only [Act.put, List.setIfInBounds_toArray, List.set_cons_zero, List.set_cons_succ]
      refine wpAnyH_take (i := 6) (oi := { dst := some 44, op := Go.Op.move (Go.Operand.tmp 6), type := 22, pos := "ref.go:215", after := #[], guard := none }) (v := ?v6) rfl (by kernel_rfl) (by kernel_rfl) (by kernel_rfl) (fun _ _ _ h => h) (Or.inl ⟨by kernel_rfl, ?h6⟩) (by assumption) ?r6
      case h6 => (intro w hSw; (try dsimp only at hSw); go_simp; try with_reducible rfl)
      try simp only [Act.put, List.setIfInBounds_toArray, List.set_cons_zero, List.set_cons_succ]
      refine wpAnyH_take (i := 7) (oi := { dst := some 45, op := Go.Op.indexAddr 22 (Go.Operand.tmp 44) (Go.Operand.const (Go.Value.int Go.IntKind.i64 2)), type := 0, pos := "ref.go:215", after := #[{ on := 6, ground := Go.Ground.data }], guard := none }) (v := ?v7) rfl (by kernel_rfl) (by kernel_rfl) (by kernel_rfl) (fun _ _ _ h => h) (Or.inl ⟨by kernel_rfl, ?h7⟩) (by assumption) ?r7
      case h7 => (intro w hSw; (try dsimp only at hSw); go_simp; try with_reducible rfl)
      try simp only [Act.put, List.setIfInBounds_toArray, List.set_cons_zero, List.set_cons_succ]
      refine wpAnyH_take (i := 8) (oi := { dst := some 46, op := Go.Op.load 9 (Go.Operand.tmp 45), type := 9, pos := "ref.go:215", after := #[{ on := 7, ground := Go.Ground.data }], guard := none }) (v := ?v8) rfl (by kernel_rfl) (by kernel_rfl) (by kernel_rfl) (fun _ _ _ h => h) (Or.inl ⟨by kernel_rfl, ?h8⟩) (by assumption) ?r8
      case h8 => (intro w hSw; (try dsimp only at hSw); go_simp; try with_reducible rfl)
      try simp only [Act.put, List.setIfInBounds_toArray, List.set_cons_zero, List.set_cons_succ]
      refine wpAnyH_ready (rs := [4]) (by kernel_rfl) (by simp) ?_
      refine AllReadyH.cons (o := { dst := some 42, op := Go.Op.call { callee := Go.Callee.value (Go.Operand.func 55), args := #[Go.Operand.tmp 38, Go.Operand.tmp 41], argTypes := #[22, 9] }, type := 3, pos := "ref.go:215", after := #[{ on := 0, ground := Go.Ground.data }, { on := 3, ground := Go.Ground.data }], guard := none }) rfl (fun K hK => ?_) AllReadyH.nil
      go_simp
      with_reducible refine (q0.out _ (b3.out.trans (hHeld.mono b3.out.size))).mono ?_
      rintro e t4 ⟨rfl, b4⟩
      go_simp
      refine hK.out _ _ (hHeld.trans (b4.mono hHeld.size)) (fun hHeld => ?_)
      clear hK K
      try simp only [Act.put, List.setIfInBounds_toArray, List.set_cons_zero, List.set_cons_succ]
      refine wpAnyH_ready (rs := [9]) (by kernel_rfl) (by simp) ?_
      refine AllReadyH.cons (o := { dst := some 47, op := Go.Op.call { callee := Go.Callee.value (Go.Operand.func 55), args := #[Go.Operand.tmp 43, Go.Operand.tmp 46], argTypes := #[22, 9] }, type := 3, pos := "ref.go:215", after := #[{ on := 5, ground := Go.Ground.data }, { on := 8, ground := Go.Ground.data }, { on := 4, ground := Go.Ground.chain }], guard := none }) rfl (fun K hK => ?_) AllReadyH.nil
      go_simp
      with_reducible refine (q2.out _ (b3.out.trans (hHeld.mono b3.out.size))).mono ?_
      rintro e t9 ⟨rfl, b9⟩
      go_simp
      refine hK.out _ _ (hHeld.trans (b9.mono hHeld.size)) (fun hHeld => ?_)
      clear hK K
      try simp only [Act.put, List.setIfInBounds_toArray, List.set_cons_zero, List.set_cons_succ]
      refine wpAnyH_take (i := 10) (oi := { dst := some 11, op := Go.Op.assign (Go.Operand.tmp 42), type := 3, pos := "ref.go:215", after := #[{ on := 4, ground := Go.Ground.data }, { on := 9, ground := Go.Ground.chain }, { on := 0, ground := Go.Ground.phase }, { on := 1, ground := Go.Ground.phase }, { on := 2, ground := Go.Ground.phase }, { on := 3, ground := Go.Ground.phase }, { on := 4, ground := Go.Ground.phase }, { on := 5, ground := Go.Ground.textOnly Go.Departure.lateStores }, { on := 6, ground := Go.Ground.textOnly Go.Departure.lateStores }, { on := 7, ground := Go.Ground.textOnly Go.Departure.lateStores }, { on := 8, ground := Go.Ground.textOnly Go.Departure.lateStores }, { on := 9, ground := Go.Ground.textOnly Go.Departure.lateStoresUnsure }], guard := none }) (v := ?v9) rfl (by kernel_rfl) (by kernel_rfl) (by kernel_rfl) (fun _ _ _ h => h) (Or.inl ⟨by kernel_rfl, ?h9⟩) (by assumption) ?r9
      case h9 => (intro w hSw; (try dsimp only at hSw); go_simp; try with_reducible rfl)
      try simp only [Act.put, List.setIfInBounds_toArray, List.set_cons_zero, List.set_cons_succ]
      refine wpAnyH_take (i := 11) (oi := { dst := some 12, op := Go.Op.assign (Go.Operand.tmp 47), type := 3, pos := "ref.go:215", after := #[{ on := 9, ground := Go.Ground.data }, { on := 10, ground := Go.Ground.chain }, { on := 0, ground := Go.Ground.phase }, { on := 1, ground := Go.Ground.phase }, { on := 2, ground := Go.Ground.phase }, { on := 3, ground := Go.Ground.phase }, { on := 4, ground := Go.Ground.phase }, { on := 5, ground := Go.Ground.phase }, { on := 6, ground := Go.Ground.phase }, { on := 7, ground := Go.Ground.phase }, { on := 8, ground := Go.Ground.phase }, { on := 9, ground := Go.Ground.phase }, { on := 10, ground := Go.Ground.phase }], guard := none }) (v := ?v10) rfl (by kernel_rfl) (by kernel_rfl) (by kernel_rfl) (fun _ _ _ h => h) (Or.inl ⟨by kernel_rfl, ?h10⟩) (by assumption) ?r10
      case h10 => (intro w hSw; (try dsimp only at hSw); go_simp; try with_reducible rfl)
      try simp only [Act.put, List.setIfInBounds_toArray, List.set_cons_zero, List.set_cons_succ]
      refine wpAnyH_done (by kernel_rfl) ?_ _
      obtain ⟨x4, hx4⟩ : ∃ x4, x4 = t9 := ⟨_, rfl⟩
      rw [← hx4] at hHeld ⊢
      have r4 := Lib.hid (own_below r3.out hHeld)
      have b4 := Lib.hid (b3.out.trans (hHeld.mono b3.out.size))
      clear hx4 hHeld y0 y2
      go_upto_region 9 with (at_builtin; refine wpList_append_st x1 x4 rfl _ _ rfl (v3) ([((1, 0, 0, 0, 0) : St)]) r4.out b4.out [(2, N0, 0, LA, 0), (2, N0, N2, 0, 0)] _ rfl 2 rfl rfl rfl (by first | (simp; done) | (have := hGl.out; (try simp only [List.length_append, List.length_cons, List.length_nil]); omega)) ?_; intro v5 x5 o2 b2; have r5 := Lib.hid o2; have b5 := Lib.hid b2; clear o2 b2)
      go_wp2_with (at_builtin; refine wpList_append_st x1 x5 rfl _ _ rfl (v5) ([((1, 0, 0, 0, 0) : St)] ++ [(2, N0, 0, LA, 0), (2, N0, N2, 0, 0)]) r5.out b5.out [(2, N0, N2, LA, 0), (2, N0, N2, -LA, 0)] _ rfl 2 rfl rfl rfl (by first | (simp; done) | (have := hGl.out; (try simp only [List.length_append, List.length_cons, List.length_nil]); omega)) ?_; intro v6 x6 o2 b2; have r6 := Lib.hid o2; have b6 := Lib.hid b2; clear o2 b2)
      go_meet
      exact ⟨by rw [hG3.out]; exact r6.out, b6.out⟩
    · have h3i : ¬ (3 : Int) ≤ (nw : Int) := by omega
      rw [if_neg h3] at hG3
      go_wp2_with fail
      go_meet
      exact ⟨by rw [hG3.out]; exact r3.out, b3.out⟩
  case rest =>
    obtain ⟨r7, b7⟩ := hcut
    replace r7 := Lib.hid r7
    replace b7 := Lib.hid b7
    generalize wc = x7 at *
    clear r3 b3 hG3
    obtain ⟨G1, hG1⟩ : ∃ G1, G1 = [((1, 0, 0, 0, 0) : St)] ++ guess3 l (splitB s) LA := ⟨_, rfl⟩
    rw [← hG1] at r7 hgS
    have hGl : Hid (G1.length ≤ 5) := Lib.hid (by rw [hG1, List.length_append]; have := hl3.out; simp; omega)
    clear hG1
    go_upto_if 70 with (fail)
    go_cut [8] (fun v W => W.ownsRow x1.heap.size 38 5 v (G1 ++ guess5 l (splitB s)).length (stCs (G1 ++ guess5 l (splitB s))) ∧ Below x1.heap.size x1 W)
    case first =>
      by_cases h5 : nw = 5
      · have h5i : ((nw : Int) == 5) = true := by simp; omega
        rw [if_pos h5] at hG5
        have y3 := hcw.out x7 b7.out 3 (by omega)
        have z3 : (3 : Int) < (nw : Int) := by omega
        have zn3 : 3 < nw := by omega
        have z4 : (4 : Int) < (nw : Int) := by omega
        have zn4 : 4 < nw := by omega
        have z0 : (0 : Int) < (nw : Int) := by omega
        have zn0 : 0 < nw := by omega
        have k3 := hwz.out 3
        have k4 := hwz.out 4
        have hcw' := hcw
        obtain ⟨S3, hS3⟩ : ∃ S3, S3 = wd (splitB s) 3 := ⟨_, rfl⟩
        obtain ⟨S4, hS4⟩ : ∃ S4, S4 = wd (splitB s) 4 := ⟨_, rfl⟩
        obtain ⟨S0, hS0⟩ : ∃ S0, S0 = wd (splitB s) 0 := ⟨_, rfl⟩
        have hc4 := Lib.hid (fun W hW => hcw.out W hW 4 (by omega))
        have hc0 : Hid (∀ W, Below x1.heap.size x1 W → W.cell? ⟨bw, ow, none⟩ = some (.string (wd (splitB s) 0))) := Lib.hid (fun W hW => by have q := hcw.out W hW 0 (by omega); rw [Nat.add_zero] at q; exact q)
        rw [← hS3] at y3 k3 hG5
        rw [← hS4] at k4 hc4 hG5
        rw [← hS0] at hc0 hG5
        clear hS3 hS4 hS0 hcw hcw'
        have t3 := trimB_sz S3
        have t4 := trimB_sz (spB ++ S4)
        have t4' : (spB ++ S4).size = 1 + S4.size := by rw [ByteArray.size_append]; rfl
        have q3 := Lib.hid (rtrim_any S3 (by omega) x7)
        have q4 := Lib.hid (fun W => rtrim_any (spB ++ S4) (by omega) W)
        have p3 := Lib.hid (fun W => qp.out (trimB S3) (by omega) W)
        have p4 := Lib.hid (fun W => qp.out (trimB (spB ++ S4)) (by omega) W)
        have q0 := Lib.hid (fun W hW => qn.out S0 W hW)
        have hsp : Hid (spB ++ S4 = (⟨#[32]⟩ : ByteArray) ++ S4) := Lib.hid rfl
        generalize trimB S3 = T3 at *
        generalize trimB (spB ++ S4) = T4 at *
        rw [hsp.out] at q4
        clear hsp t4'
        generalize pN T3 = P3 at *
        generalize pN T4 = P4 at *
        generalize pOK T3 = O3 at *
        generalize pOK T4 = O4 at *
        generalize numQ l S0 = N0 at *
        have zz : ¬ 9223372036854775807 < 1 + S4.size := by omega
        clear t3 t4 h5
        go_wp2_with fail
        with_reducible refine q3.out.mono ?_
        rintro e y1 ⟨rfl, c1⟩
        clear y3 q3
        go_wp2_with fail
        with_reducible refine (p3.out _).mono ?_
        rintro e y2 ⟨rfl, c2⟩
        clear p3
        have B2 := Lib.hid (c1.trans (c2.mono c1.size))
        have B2' := Lib.hid (b7.out.trans (B2.out.mono b7.out.size))
        clear c1 c2
        have y4 := hc4.out y2 B2'.out
        go_wp2_with fail
        with_reducible refine (q4.out _).mono ?_
        rintro e y3 ⟨rfl, c3⟩
        clear y4 q4
        go_wp2_with fail
        with_reducible refine (p4.out _).mono ?_
        rintro e y4 ⟨rfl, c4⟩
        clear p4
        have B4 := Lib.hid (c3.trans (c4.mono c3.size))
        have B4' := Lib.hid (B2'.out.trans (B4.out.mono B2'.out.size))
        have r8 := Lib.hid (own_below (own_below r7.out B2.out) B4.out)
        clear c3 c4 B2 B4 B2'
        have y0 := hc0.out y4 B4'.out
        cases O3
        · rw [if_neg (by simp)] at hG5
          go_wp2_with fail
          go_meet
          exact ⟨by rw [hG5.out, List.append_nil]; exact r8.out, B4'.out⟩
        cases O4
        · rw [if_neg (by simp)] at hG5
          go_wp2_with fail
          go_meet
          exact ⟨by rw [hG5.out, List.append_nil]; exact r8.out, B4'.out⟩
        rw [if_pos ⟨rfl, rfl⟩] at hG5
        go_wp2_with fail
        with_reducible refine (q0.out _ B4'.out).mono ?_
        rintro e y5 ⟨rfl, c5⟩
        have r9 := Lib.hid (own_below r8.out c5)
        have B5 := Lib.hid (B4'.out.trans (c5.mono B4'.out.size))
        clear c5 y0 q0
        go_wp2_with (at_builtin; refine wpList_append_st x1 y5 rfl _ _ rfl (_) (G1) r9.out B5.out [(3, N0, 0, P3, P4)] _ rfl 1 rfl rfl rfl (by first | (simp; done) | (have := hGl.out; (try simp only [List.length_append, List.length_cons, List.length_nil]); omega)) ?_; intro v6 x6 o2 b2; have r6 := Lib.hid o2; have b6 := Lib.hid b2; clear o2 b2)
        go_meet
        exact ⟨by rw [hG5.out]; exact r6.out, b6.out⟩
      · have h5i : ((nw : Int) == 5) = false := by simp; omega
        rw [if_neg h5] at hG5
        go_wp2_with fail
        go_meet
        exact ⟨by rw [hG5.out, List.append_nil]; exact r7.out, b7.out⟩
    case rest =>
      obtain ⟨r10, b10⟩ := hcut
      rw [← hgS.out] at r10
      replace r10 := Lib.hid r10
      replace b10 := Lib.hid b10
      generalize wc = x10 at *
      clear r7 b7 hG5 hgS hGl
      go_wp2
      go_loopw [8, 17] (fun v k wr => ∃ KD : Int, (KD = 4 ∨ KD = 5 ∨ KD = 6) ∧ k = .int .i64 KD ∧ Hid (wr.ownsRow x1.heap.size 38 5 v (gK l (splitB s) LA KD).length (stCs (gK l (splitB s) LA KD))) ∧ Hid (Below x1.heap.size x1 wr)) (fun _ k _ => (6 - intOf k).toNat)
      case atStart => exact ⟨4, .inl rfl, rfl, r10, b10⟩
      case round =>
        clear r10 b10
        obtain ⟨KD, hK, rfl, r10, b10⟩ := hrel
        by_cases hK5 : KD ≤ 5
        · have hK45 : KD = 4 ∨ KD = 5 := by omega
          have hn2 := Lib.hid (hgN.out KD hK45)
          have hG4K := Lib.hid (hG4.out KD)
          have hGl := Lib.hid (hgK.out KD)
          have hk4 : 4 ≤ KD := by omega
          obtain ⟨GG, hGG⟩ : ∃ GG, GG = gK l (splitB s) LA KD := ⟨_, rfl⟩
          rw [← hGG] at r10 hn2 hGl
          clear hGG hK hK45
          by_cases h4 : nw = 4
          · have h4i : ((nw : Int) == 4) = true := by simp; omega
            have h6i : ((nw : Int) == 6) = false := by simp; omega
            have h6 : ¬ nw = 6 := by omega
            rw [if_pos h4, if_neg h6, List.append_nil] at hG4K
            have hc1 := Lib.hid (fun W hW => hcw.out W hW 1 (by omega))
            have k1 := hwz.out 1
            have z1 : (1 : Int) < (nw : Int) := by omega
            have zn1 : 1 < nw := by omega
            obtain ⟨S1, hS1⟩ : ∃ S1, S1 = wd (splitB s) 1 := ⟨_, rfl⟩
            rw [← hS1] at hc1 k1 hG4K
            clear hS1
            have q1 := Lib.hid (fun W hW => qn.out S1 W hW)
            generalize numQ l S1 = N1 at *
            have y1 := hc1.out wr b10.out
            clear h4 h6
            go_wp2_with fail
            with_reducible refine (q1.out _ b10.out).mono ?_
            rintro e y2 ⟨rfl, c2⟩
            have r11 := Lib.hid (own_below r10.out c2)
            have b11 := Lib.hid (b10.out.trans (c2.mono b10.out.size))
            clear c2 y1 q1
            go_upto_region 20 with (at_builtin; refine wpList_append_st x1 y2 rfl _ _ rfl (_) (GG) r11.out b11.out [(KD, N1, 0, LA, 0)] _ rfl 1 rfl rfl rfl (by first | (simp; done) | (have := hGl.out; (try simp only [List.length_append, List.length_cons, List.length_nil]); omega)) ?_; intro v3 x3 o2 b2; have r3 := Lib.hid o2; have b3 := Lib.hid b2; clear o2 b2)
            have y1 := hc1.out x3 b3.out
            by_cases hz : 0 < S1.size
            · have hzi : (0 : Int) < (S1.size : Int) := by omega
              rw [if_pos hz] at hG4K
              have q1 := Lib.hid (fun W hW => qn.out (S1.extract 1 S1.size) W hW)
              generalize numQ l (S1.extract 1 S1.size) = M1 at *
              have s1 : ∀ W, (Instr.slice 9 (.string S1) (some (.int .i64 1)) none none).run Tryz.prog W = .ok (.string (S1.extract 1 S1.size)) W := fun W => by have := run_slice_string_l (P := Tryz.prog) W 9 S1 Tryz.underlying9 .i64 1 (by omega) (by omega); simpa using this
              generalize S1.extract 1 S1.size = E1 at *
              go_wp2_with fail
              with_reducible refine (q1.out _ b3.out).mono ?_
              rintro e y4 ⟨rfl, c4⟩
              have r12 := Lib.hid (own_below r3.out c4)
              have b12 := Lib.hid (b3.out.trans (c4.mono b3.out.size))
              clear c4 y1 q1 s1
              go_wp2_with (at_builtin; refine wpList_append_st x1 y4 rfl _ _ rfl (_) (GG ++ [(KD, N1, 0, LA, 0)]) r12.out b12.out [(KD, 0, M1, LA, 0)] _ rfl 1 rfl rfl rfl (by first | (simp; done) | (have := hGl.out; (try simp only [List.length_append, List.length_cons, List.length_nil]); omega)) ?_; intro v5 x5 o2 b2; have r5 := Lib.hid o2; have b5 := Lib.hid b2; clear o2 b2)
              go_roundw
              case rel => exact ⟨KD + 1, by omega, by go_num, Lib.hid (by rw [hn2.out, hG4K.out]; have q := r5.out; rw [List.append_assoc] at q; exact q), b5⟩
              case measure => simp [intOf]; omega
            · have hzi : ¬ (0 : Int) < (S1.size : Int) := by omega
              rw [if_neg hz] at hG4K
              go_wp2
              go_roundw
              case rel => exact ⟨KD + 1, by omega, by go_num, Lib.hid (by rw [hn2.out, hG4K.out]; exact r3.out), b3⟩
              case measure => simp [intOf]; omega
          have h4i : ((nw : Int) == 4) = false := by simp; omega
          by_cases h6 : nw = 6
          · have h6i : ((nw : Int) == 6) = true := by simp; omega
            rw [if_neg h4, if_pos h6, List.nil_append] at hG4K
            have z1 : (1 : Int) < (nw : Int) := by omega
            have zn1 : 1 < nw := by omega
            have z3 : (3 : Int) < (nw : Int) := by omega
            have zn3 : 3 < nw := by omega
            have y1 := fun W hW => hcw.out W hW 1 (by omega)
            have y3 := fun W hW => hcw.out W hW 3 (by omega)
            have q1 := Lib.hid (fun W hW => qn.out (wd (splitB s) 1) W hW)
            have q3 := Lib.hid (fun W hW => qn.out (wd (splitB s) 3) W hW)
            generalize numQ l (wd (splitB s) 1) = N1 at *
            generalize numQ l (wd (splitB s) 3) = N3 at *
            generalize wd (splitB s) 1 = S1 at *
            generalize wd (splitB s) 3 = S3 at *
            clear h4 h6
            go_wp2
            have hR : Hid (wr.drew.ownsRow x1.heap.size 38 5 _ GG.length (stCs GG)) := Lib.hid (own_below r10.out (Below.refl _ _).drew)
            refine wp_drawn_on (fun W => Below x1.heap.size x1 W) (by kernel_rfl) (b10.out.drew) (fun hHeld => ?_)
            refine wpAnyH_take (i := 0) (oi := { dst := some 139, op := Go.Op.move (Go.Operand.tmp 8), type := 86, pos := "ref.go:234", after := #[], guard := none }) (v := ?v11) rfl (by kernel_rfl) (by kernel_rfl) (by kernel_rfl) (fun _ _ _ h => h) (Or.inl ⟨by kernel_rfl, ?h11⟩) (by assumption) ?r11
            case h11 => (intro w hSw; (try dsimp only at hSw); go_simp; try with_reducible rfl)
            try simp only [Act.put, List.setIfInBounds_toArray, List.set_cons_zero, List.set_cons_succ]
            refine wpAnyH_take (i := 1) (oi := { dst := some 140, op := Go.Op.move (Go.Operand.tmp 17), type := 3, pos := "ref.go:234", after := #[], guard := none }) (v := ?v12) rfl (by kernel_rfl) (by kernel_rfl) (by kernel_rfl) (fun _ _ _ h => h) (Or.inl ⟨by kernel_rfl, ?h12⟩) (by assumption) ?r12
            case h12 => (intro w hSw; (try dsimp only at hSw); go_simp; try with_reducible rfl)
            try simp only [Act.put, List.setIfInBounds_toArray, List.set_cons_zero, List.set_cons_succ]
            refine wpAnyH_take (i := 2) (oi := { dst := some 141, op := Go.Op.move (Go.Operand.tmp 0), type := 22, pos := "ref.go:234", after := #[], guard := none }) (v := ?v13) rfl (by kernel_rfl) (by kernel_rfl) (by kernel_rfl) (fun _ _ _ h => h) (Or.inl ⟨by kernel_rfl, ?h13⟩) (by assumption) ?r13
            case h13 => (intro w hSw; (try dsimp only at hSw); go_simp; try with_reducible rfl)
            try simp only [Act.put, List.setIfInBounds_toArray, List.set_cons_zero, List.set_cons_succ]
            refine wpAnyH_take (i := 3) (oi := { dst := some 142, op := Go.Op.move (Go.Operand.tmp 6), type := 22, pos := "ref.go:234", after := #[], guard := none }) (v := ?v14) rfl (by kernel_rfl) (by kernel_rfl) (by kernel_rfl) (fun _ _ _ h => h) (Or.inl ⟨by kernel_rfl, ?h14⟩) (by assumption) ?r14
            case h14 => (intro w hSw; (try dsimp only at hSw); go_simp; try with_reducible rfl)
            try simp only [Act.put, List.setIfInBounds_toArray, List.set_cons_zero, List.set_cons_succ]
            refine wpAnyH_take (i := 4) (oi := { dst := some 143, op := Go.Op.indexAddr 22 (Go.Operand.tmp 142) (Go.Operand.const (Go.Value.int Go.IntKind.i64 1)), type := 0, pos := "ref.go:234", after := #[{ on := 3, ground := Go.Ground.data }], guard := none }) (v := ?v15) rfl (by kernel_rfl) (by kernel_rfl) (by kernel_rfl) (fun _ _ _ h => h) (Or.inl ⟨by kernel_rfl, ?h15⟩) (by assumption) ?r15
            case h15 => (intro w hSw; (try dsimp only at hSw); go_simp; try with_reducible rfl)
            try simp only [Act.put, List.setIfInBounds_toArray, List.set_cons_zero, List.set_cons_succ]
            refine wpAnyH_take (i := 5) (oi := { dst := some 144, op := Go.Op.load 9 (Go.Operand.tmp 143), type := 9, pos := "ref.go:234", after := #[{ on := 4, ground := Go.Ground.data }], guard := none }) (v := ?v16) rfl (by kernel_rfl) (by kernel_rfl) (by kernel_rfl) (fun _ _ _ h => h) (Or.inl ⟨by kernel_rfl, ?h16⟩) (by assumption) ?r16
            case h16 => (intro w hSw; (try dsimp only at hSw); go_simp; try with_reducible rfl)
            try simp only [Act.put, List.setIfInBounds_toArray, List.set_cons_zero, List.set_cons_succ]
            refine wpAnyH_take (i := 7) (oi := { dst := some 146, op := Go.Op.move (Go.Operand.tmp 0), type := 22, pos := "ref.go:234", after := #[], guard := none }) (v := ?v17) rfl (by kernel_rfl) (by kernel_rfl) (by kernel_rfl) (fun _ _ _ h => h) (Or.inl ⟨by kernel_rfl, ?h17⟩) (by assumption) ?r17
            case h17 => (intro w hSw; (try dsimp only at hSw); go_simp; try with_reducible rfl)
            try simp only [Act.put, List.setIfInBounds_toArray, List.set_cons_zero, List.set_cons_succ]
            refine wpAnyH_take (i := 8) (oi := { dst := some 147, op := Go.Op.move (Go.Operand.tmp 6), type := 22, pos := "ref.go:234", after := #[], guard := none }) (v := ?v18) rfl (by kernel_rfl) (by kernel_rfl) (by kernel_rfl) (fun _ _ _ h => h) (Or.inl ⟨by kernel_rfl, ?h18⟩) (by assumption) ?r18
            case h18 => (intro w hSw; (try dsimp only at hSw); go_simp; try with_reducible rfl)
            try simp only [Act.put, List.setIfInBounds_toArray, List.set_cons_zero, List.set_cons_succ]
            refine wpAnyH_take (i := 9) (oi := { dst := some 148, op := Go.Op.indexAddr 22 (Go.Operand.tmp 147) (Go.Operand.const (Go.Value.int Go.IntKind.i64 3)), type := 0, pos := "ref.go:234", after := #[{ on := 8, ground := Go.Ground.data }], guard := none }) (v := ?v19) rfl (by kernel_rfl) (by kernel_rfl) (by kernel_rfl) (fun _ _ _ h => h) (Or.inl ⟨by kernel_rfl, ?h19⟩) (by assumption) ?r19
            case h19 => (intro w hSw; (try dsimp only at hSw); go_simp; try with_reducible rfl)
            try simp only [Act.put, List.setIfInBounds_toArray, List.set_cons_zero, List.set_cons_succ]
            refine wpAnyH_take (i := 10) (oi := { dst := some 149, op := Go.Op.load 9 (Go.Operand.tmp 148), type := 9, pos := "ref.go:234", after := #[{ on := 9, ground := Go.Ground.data }], guard := none }) (v := ?v20) rfl (by kernel_rfl) (by kernel_rfl) (by kernel_rfl) (fun _ _ _ h => h) (Or.inl ⟨by kernel_rfl, ?h20⟩) (by assumption) ?r20
            case h20 => (intro w hSw; (try dsimp only at hSw); go_simp; try with_reducible rfl)
            try simp only [Act.put, List.setIfInBounds_toArray, List.set_cons_zero, List.set_cons_succ]
            refine wpAnyH_take (i := 12) (oi := { dst := some 151, op := Go.Op.move (Go.Operand.tmp 9), type := 3, pos := "ref.go:234", after := #[], guard := none }) (v := ?v21) rfl (by kernel_rfl) (by kernel_rfl) (by kernel_rfl) (fun _ _ _ h => h) (Or.inl ⟨by kernel_rfl, ?h21⟩) (by assumption) ?r21
            case h21 => (intro w hSw; (try dsimp only at hSw); go_simp; try with_reducible rfl)
            try simp only [Act.put, List.setIfInBounds_toArray, List.set_cons_zero, List.set_cons_succ]
            refine wpAnyH_ready (rs := [6]) (by kernel_rfl) (by simp) ?_
            refine AllReadyH.cons (o := { dst := some 145, op := Go.Op.call { callee := Go.Callee.value (Go.Operand.func 55), args := #[Go.Operand.tmp 141, Go.Operand.tmp 144], argTypes := #[22, 9] }, type := 3, pos := "ref.go:234", after := #[{ on := 2, ground := Go.Ground.data }, { on := 5, ground := Go.Ground.data }], guard := none }) rfl (fun K hK => ?_) AllReadyH.nil
            go_simp
            with_reducible refine (q1.out _ hHeld).mono ?_
            rintro e t6 ⟨rfl, b6⟩
            replace hR := Lib.hid (own_below hR.out b6)
            go_simp
            refine hK.out _ _ (hHeld.trans (b6.mono hHeld.size)) (fun hHeld => ?_)
            clear hK K
            try simp only [Act.put, List.setIfInBounds_toArray, List.set_cons_zero, List.set_cons_succ]
            refine wpAnyH_ready (rs := [11]) (by kernel_rfl) (by simp) ?_
            refine AllReadyH.cons (o := { dst := some 150, op := Go.Op.call { callee := Go.Callee.value (Go.Operand.func 55), args := #[Go.Operand.tmp 146, Go.Operand.tmp 149], argTypes := #[22, 9] }, type := 3, pos := "ref.go:234", after := #[{ on := 7, ground := Go.Ground.data }, { on := 10, ground := Go.Ground.data }, { on := 6, ground := Go.Ground.chain }], guard := none }) rfl (fun K hK => ?_) AllReadyH.nil
            go_simp
            with_reducible refine (q3.out _ hHeld).mono ?_
            rintro e t11 ⟨rfl, b11⟩
            replace hR := Lib.hid (own_below hR.out b11)
            go_simp
            refine hK.out _ _ (hHeld.trans (b11.mono hHeld.size)) (fun hHeld => ?_)
            clear hK K
            try simp only [Act.put, List.setIfInBounds_toArray, List.set_cons_zero, List.set_cons_succ]
            refine wpAnyH_take (i := 13) (oi := { dst := some 152, op := Go.Op.build 38 #[(0, Go.Operand.tmp 140), (1, Go.Operand.tmp 145), (2, Go.Operand.tmp 150), (3, Go.Operand.tmp 151)], type := 38, pos := "ref.go:234", after := #[{ on := 1, ground := Go.Ground.data }, { on := 6, ground := Go.Ground.data }, { on := 11, ground := Go.Ground.data }, { on := 12, ground := Go.Ground.data }], guard := none }) (v := ?v22) rfl (by kernel_rfl) (by kernel_rfl) (by kernel_rfl) (fun _ _ _ h => h) (Or.inl ⟨by kernel_rfl, ?h22⟩) (by assumption) ?r22
            case h22 => (intro w hSw; (try dsimp only at hSw); go_simp; try with_reducible rfl)
            try simp only [Act.put, List.setIfInBounds_toArray, List.set_cons_zero, List.set_cons_succ]
            refine wpAnyH_ready (rs := [14]) (by kernel_rfl) (by simp) ?_
            refine AllReadyH.cons (o := { dst := some 153, op := Go.Op.buildSlice 86 1 #[(0, Go.Operand.tmp 152)], type := 86, pos := "ref.go:234", after := #[{ on := 13, ground := Go.Ground.data }], guard := none }) rfl (fun K hK => ?_) AllReadyH.nil
            go_simp
            have hB14 := hHeld
            refine hK.out _ _ (hHeld.alloc hHeld.size _) (fun hHeld => ?_)
            clear hK K
            try simp only [Act.put, List.setIfInBounds_toArray, List.set_cons_zero, List.set_cons_succ]
            refine wpAnyH_ready (rs := [15]) (by kernel_rfl) (by simp) ?_
            refine AllReadyH.cons (o := { dst := some 154, op := Go.Op.call { callee := Go.Callee.builtin Go.Builtin.append, args := #[Go.Operand.tmp 139, Go.Operand.tmp 153], argTypes := #[86, 86] }, type := 86, pos := "ref.go:234", after := #[{ on := 0, ground := Go.Ground.data }, { on := 14, ground := Go.Ground.data }, { on := 11, ground := Go.Ground.chain }], guard := none }) rfl (fun K hK => ?_) AllReadyH.nil
            refine wp_append_st x1 t11 _ _ rfl _ GG hR.out hB14 [(KD, N1, N3, LA, 0)] _ rfl 1 rfl rfl rfl (by have := hGl.out; omega) ?_
            intro v5 x5 o5 c5
            have r5 := Lib.hid o5
            have b5 := Lib.hid c5
            clear o5 c5
            refine hK.out _ _ (b5.out) (fun hHeld => ?_)
            clear hK K
            try simp only [Act.put, List.setIfInBounds_toArray, List.set_cons_zero, List.set_cons_succ]
            refine wpAnyH_take (i := 16) (oi := { dst := some 8, op := Go.Op.assign (Go.Operand.tmp 154), type := 86, pos := "ref.go:234", after := #[{ on := 15, ground := Go.Ground.data }, { on := 15, ground := Go.Ground.chain }, { on := 0, ground := Go.Ground.phase }, { on := 1, ground := Go.Ground.phase }, { on := 2, ground := Go.Ground.phase }, { on := 3, ground := Go.Ground.phase }, { on := 4, ground := Go.Ground.phase }, { on := 5, ground := Go.Ground.phase }, { on := 6, ground := Go.Ground.phase }, { on := 7, ground := Go.Ground.phase }, { on := 8, ground := Go.Ground.phase }, { on := 9, ground := Go.Ground.phase }, { on := 10, ground := Go.Ground.phase }, { on := 11, ground := Go.Ground.phase }, { on := 12, ground := Go.Ground.phase }, { on := 13, ground := Go.Ground.phase }, { on := 14, ground := Go.Ground.phase }, { on := 15, ground := Go.Ground.phase }], guard := none }) (v := ?v23) rfl (by kernel_rfl) (by kernel_rfl) (by kernel_rfl) (fun _ _ _ h => h) (Or.inl ⟨by kernel_rfl, ?h23⟩) (by assumption) ?r23
            case h23 => (intro w hSw; (try dsimp only at hSw); go_simp; try with_reducible rfl)
            try simp only [Act.put, List.setIfInBounds_toArray, List.set_cons_zero, List.set_cons_succ]
            refine wpAnyH_done (by kernel_rfl) ?_ _
            go_wp2
            go_roundw
            case rel => exact ⟨KD + 1, by omega, by go_num, Lib.hid (by rw [hn2.out, hG4K.out]; exact r5.out), b5⟩
            case measure => simp [intOf]; omega
          have h6i : ((nw : Int) == 6) = false := by simp; omega
          rw [if_neg h4, if_neg h6, List.append_nil] at hG4K
          go_wp2
          go_roundw
          case rel => exact ⟨KD + 1, by omega, by go_num, Lib.hid (by rw [hn2.out, hG4K.out, List.append_nil]; exact r10.out), b10⟩
          case measure => simp [intOf]; omega
        · have hKe : KD = 6 := by omega
          rw [hKe, hGE.out] at r10
          have hGl : Hid ((guessL l s).length ≤ 12) := Lib.hid (by rw [← hGE.out]; exact hgK.out 6)
          clear hKe hK hgN hgK hG4 hGE
          generalize guessL l s = GL at *
          go_wp2
          generalize wr = x12 at *
          obtain ⟨ag, cg, rfl, _, _, _⟩ := seesC_own r10.out
          have HZ2 := Lib.hid (HZ.out.below b10.out HZ.out.lt)
          have hnz : GL.length ≤ 12 := hGl.out
          go_loopw [18] (fun x wr => ∃ i : Nat, i ≤ GL.length ∧ x = .int .i64 i ∧ Hid (Below x12.heap.size x12 wr) ∧ Hid (∀ j, j < i → fits l s (GL.getD j (0, 0, 0, 0, 0)) = false)) (fun x _ => GL.length - (intOf x).toNat)
          case atStart => exact ⟨0, Nat.zero_le _, rfl, Lib.hid (Below.refl _ _), Lib.hid (fun j hj => by omega)⟩
          case round =>
            obtain ⟨i, hi, rfl, hB, hF⟩ := hrel
            have HZ3 := Lib.hid (HZ2.out.below hB.out HZ2.out.lt)
            by_cases hlt : i < GL.length
            · have hii : (i : Int) < (GL.length : Int) := by omega
              obtain ⟨g, cap, hgv, hglt, hgc⟩ := st_cells (own_below r10.out hB.out) hlt
              injection hgv with hg1 hg2 hg3
              subst hg1
              have V2 := Lib.hid (V.out.below (b10.out.trans (hB.out.mono b10.out.size)))
              obtain ⟨pk, px, py, pc, pd, hp⟩ : ∃ pk px py pc pd, GL.getD i (0, 0, 0, 0, 0) = ((pk, px, py, pc, pd) : St) := ⟨_, _, _, _, _, rfl⟩
              have hy := Lib.hid (fun h => hyes.out i hlt hF.out h)
              have hF2 : Hid (fits l s (GL.getD i (0, 0, 0, 0, 0)) = false → ∀ j, j < i + 1 → fits l s (GL.getD j (0, 0, 0, 0, 0)) = false) := Lib.hid (fun h j hj => by
                  by_cases ej : j = i
                  · rw [ej]; exact h
                  · exact hF.out j (by omega))
              rw [hp] at hgc hy hF2
              have C0 : ∀ W, Below wr.heap.size wr W → W.cell? ⟨g, i * 5, none⟩ = some (.int .i64 pk) := fun W hW => (hW.cell (p := ⟨g, i * 5, none⟩) hglt).trans (hgc 0 (by omega))
              have C1 : ∀ W, Below wr.heap.size wr W → W.cell? ⟨g, i * 5 + 1, none⟩ = some (.int .i64 px) := fun W hW => (hW.cell (p := ⟨g, i * 5 + 1, none⟩) hglt).trans (hgc 1 (by omega))
              have C2 : ∀ W, Below wr.heap.size wr W → W.cell? ⟨g, i * 5 + 2, none⟩ = some (.int .i64 py) := fun W hW => (hW.cell (p := ⟨g, i * 5 + 2, none⟩) hglt).trans (hgc 2 (by omega))
              have C3 : ∀ W, Below wr.heap.size wr W → W.cell? ⟨g, i * 5 + 3, none⟩ = some (.int .i64 pc) := fun W hW => (hW.cell (p := ⟨g, i * 5 + 3, none⟩) hglt).trans (hgc 3 (by omega))
              have C4 : ∀ W, Below wr.heap.size wr W → W.cell? ⟨g, i * 5 + 4, none⟩ = some (.int .i64 pd) := fun W hW => (hW.cell (p := ⟨g, i * 5 + 4, none⟩) hglt).trans (hgc 4 (by omega))
              have fe : Hid (fits l s (pk, px, py, pc, pd) = (rightB pk px py pc pd (n : Int) && decide (stmtT l pk px py pc pd = s))) := Lib.hid (by unfold fits; rw [← hn.out])
              have qr := Lib.hid (rright_any pk px py pc pd (n : Int) wr)
              have qsh := Lib.hid (fun h W hW => rshow_any a n cp l hl pk px py pc pd h W hW)
              have D0 := Lib.hid C0
              have D1 := Lib.hid C1
              have D2 := Lib.hid C2
              have D3 := Lib.hid C3
              have D4 := Lib.hid C4
              have c0 := C0 wr (Below.refl _ _)
              have c1 := C1 wr (Below.refl _ _)
              have c2 := C2 wr (Below.refl _ _)
              have c3 := C3 wr (Below.refl _ _)
              have c4 := C4 wr (Below.refl _ _)
              clear hgc hp hg2 hg3 hyes hno hF C0 C1 C2 C3 C4
              cases hrb : rightB pk px py pc pd (n : Int)
              · rw [hrb] at qr
                rw [hrb, Bool.false_and] at fe
                clear hrb
                go_wp2_with fail
                with_reducible refine qr.out.mono ?_
                rintro e y1 ⟨rfl, d1⟩
                have hB1 := Lib.hid (hB.out.trans (d1.mono hB.out.size))
                clear d1 c0 c1 c2 c3 c4 qr
                go_wp2
                go_roundw
                case rel => exact ⟨i + 1, by omega, by go_num, hB1, Lib.hid (hF2.out fe.out)⟩
                case measure => simp [intOf]; omega
              · rw [hrb] at qr
                rw [hrb, Bool.true_and] at fe
                replace qsh := Lib.hid (fun W hW => qsh.out hrb W hW)
                clear hrb
                go_wp2_with fail
                with_reducible refine qr.out.mono ?_
                rintro e y1 ⟨rfl, d1⟩
                have hB1 := Lib.hid (hB.out.trans (d1.mono hB.out.size))
                have d1' := Lib.hid d1
                have V3 := Lib.hid (V2.out.below d1)
                clear d1 c0 c1 c2 c3 c4 qr
                have c0 := D0.out y1 d1'.out
                have c1 := D1.out y1 d1'.out
                have c2 := D2.out y1 d1'.out
                have c3 := D3.out y1 d1'.out
                have c4 := D4.out y1 d1'.out
                generalize stmtT l pk px py pc pd = T at *
                go_wp2_with fail
                with_reducible refine (qsh.out _ V3.out).mono ?_
                rintro e y2 ⟨rfl, d2⟩
                have hB2 := Lib.hid (hB1.out.trans (d2.mono hB1.out.size))
                have d2' := Lib.hid (d1'.out.trans (d2.mono d1'.out.size))
                clear d2 c0 c1 c2 c3 c4 qsh V3
                by_cases hTs : T = s
                · have dt : (T.toList == s.toList) = true := by rw [ptxt_eq]; exact decide_eq_true hTs
                  have hR := Lib.hid (hy.out (by rw [fe.out]; exact decide_eq_true hTs))
                  clear hTs hy hF2 fe
                  have c0 := D0.out y2 d2'.out
                  have c1 := D1.out y2 d2'.out
                  have c2 := D2.out y2 d2'.out
                  have c3 := D3.out y2 d2'.out
                  have c4 := D4.out y2 d2'.out
                  have HZ4 := Lib.hid (HZ2.out.below hB2.out HZ2.out.lt)
                  have k0 := HZ4.out.cell 0
                  have k1 := HZ4.out.cell 1
                  have k2 := HZ4.out.cell 2
                  have k3 := HZ4.out.cell 3
                  have k4 := HZ4.out.cell 4
                  have f0 := HZ4.out.free 0
                  have f1 := HZ4.out.free 1
                  have f2 := HZ4.out.free 2
                  have f3 := HZ4.out.free 3
                  have f4 := HZ4.out.free 4
                  simp at k0 k1 k2 k3 k4
                  have hbl := Lib.hid (BL.out.trans ((b10.out.trans (hB2.out.mono b10.out.size)).mono BL.out.size))
                  go_wp2
                  refine stmt_ret2 (set5 HZ4.out pk px py pc pd) ⟨by rw [hR.out]; rfl, belS hbl.out (Nat.le_refl _) pk px py pc pd⟩ _ _ 4 5 rfl rfl rfl rfl
                · have dt : (T.toList == s.toList) = false := by rw [ptxt_eq]; exact decide_eq_false hTs
                  have hF3 := Lib.hid (hF2.out (by rw [fe.out]; exact decide_eq_false hTs))
                  clear hTs hy hF2 fe
                  go_wp2
                  go_roundw
                  case rel => exact ⟨i + 1, by omega, by go_num, hB2, hF3⟩
                  case measure => simp [intOf]; omega
            · have hii : ¬ (i : Int) < (GL.length : Int) := by omega
              have hR := Lib.hid (hno.out (fun j hj => hF.out j (by omega)))
              have k0 := HZ3.out.cell 0
              have k1 := HZ3.out.cell 1
              have k2 := HZ3.out.cell 2
              have k3 := HZ3.out.cell 3
              have k4 := HZ3.out.cell 4
              have f0 := HZ3.out.free 0
              have f1 := HZ3.out.free 1
              have f2 := HZ3.out.free 2
              have f3 := HZ3.out.free 3
              have f4 := HZ3.out.free 4
              simp at k0 k1 k2 k3 k4
              have hbl := Lib.hid (BL.out.trans ((b10.out.trans (hB.out.mono b10.out.size)).mono BL.out.size))
              clear hyes hno hF
              go_wp2
              refine stmt_ret2 (set5 HZ3.out 0 0 0 0 0) ⟨by rw [hR.out]; rfl, belS hbl.out (Nat.le_refl _) 0 0 0 0 0⟩ _ _ 4 5 rfl rfl rfl rfl
end Go.Proofs.YtgeliikfgnkppaaGreatDoor
namespace Go.Proofs.YtgeliikfgnkppaaGreatDoor
open Go.RowKit
set_option linter.unusedVariables false
set_option linter.unusedSimpArgs false
def otherR (r : Nat) : Bool := !fileI (r : Int)
theorem idx_file (s : ByteArray) : ∀ f pos, s.size ≤ pos + f → (∀ t, t < pos → fileI ((codes s).getD t 0) = true) → decide (0 ≤ Lib.idxFuncFrom otherR true s f pos) = !allF s
  | 0, pos, hf, hal => by
    rw [allF_yes (fun t ht => hal t (by omega))]
    unfold Lib.idxFuncFrom
    rfl
  | f + 1, pos, hf, hal => by
    unfold Lib.idxFuncFrom
    by_cases hp : pos < s.size
    · rw [if_pos hp]
      have hat := codes_at s pos hp
      by_cases ha : (s[pos]'hp).toNat < 128
      · rw [decode_ascii s pos hp ha]
        cases hfi : fileI ((codes s).getD pos 0)
        · have h1 : otherR (s[pos]'hp).toNat = true := by unfold otherR; rw [← hat, hfi]; rfl
          rw [allF_no hp hfi]; simp [h1]
        · have h1 : otherR (s[pos]'hp).toNat = false := by unfold otherR; rw [← hat, hfi]; rfl
          have hn : ∀ t, t < pos + 1 → fileI ((codes s).getD t 0) = true := fun t ht => by
            by_cases e : t = pos
            · rw [e]; exact hfi
            · exact hal t (by omega)
          have ih := idx_file s f (pos + 1) (by omega) hn
          simp [ih, h1]
      · have hd := (decode_high s pos hp (by omega)).1
        have h1 : otherR (Utf8.decode s pos).1 = true := by unfold otherR; rw [file_high (by omega)]; rfl
        rw [h1, allF_no hp (file_high (by rw [hat]; omega))]
        simp
    · rw [if_neg hp, allF_yes (fun t ht => hal t (by omega))]
      rfl
set_option maxRecDepth 100000 in
theorem other_any (c : Int) (w : World) : Calls Tryz.prog 85 #[.int .i32 c] w (SetTo (.bool (!fileI c)) w) := by
  have q := Lib.hid (nameRune_any c w)
  cases hm : moreI c
  · have hR : Hid (fileI c = (decide (c = 45) || decide (c = 47))) := Lib.hid (by unfold fileI; rw [hm, Bool.false_or])
    rw [hm] at q
    clear hm
    generalize fileI c = R at *
    by_cases h1 : c = 45
    · have hF : Hid ((!R) = false) := Lib.hid (by rw [hR.out, decide_eq_true h1]; rfl)
      have h1b : (c != 45) = false := by simpa using h1
      clear hR h1
      go_enter Tryz.func85, Tryz.ntmps85
      go_wp2_with fail
      refine q.out.mono ?_
      rintro e w1 ⟨rfl, rfl⟩
      go_wp2
      go_ret
      exact ⟨ret_bool hF.out.symm, rfl⟩
    · have hF : Hid ((c != 47) = !R) := Lib.hid (by rw [hR.out, decide_eq_false h1, Bool.false_or, Bool.eq_iff_iff]; simp)
      have h1b : (c != 45) = true := by simpa using h1
      clear hR h1
      go_enter Tryz.func85, Tryz.ntmps85
      go_wp2_with fail
      refine q.out.mono ?_
      rintro e w1 ⟨rfl, rfl⟩
      go_wp2
      go_ret
      exact ⟨ret_bool hF.out, rfl⟩
  · have hR : Hid ((!fileI c) = false) := Lib.hid (by unfold fileI; rw [hm, Bool.true_or]; rfl)
    rw [hm] at q
    clear hm
    generalize (!fileI c) = R at *
    go_enter Tryz.func85, Tryz.ntmps85
    go_wp2_with fail
    refine q.out.mono ?_
    rintro e w1 ⟨rfl, rfl⟩
    go_wp2
    go_ret
    exact ⟨ret_bool hR.out.symm, rfl⟩
theorem contains_file (s : ByteArray) (w : World) : Calls Tryz.prog 87 #[.string s, .func (.func 85) #[] #[]] w (Gives (.bool (!allF s)) w) := by
  have h := Tryz.strings_ContainsFunc_grows 85 #[] (fun args w => by kernel_rfl) otherR s w (fun W x hx hb => (other_any (x : Int) W).mono (fun e w' h => ⟨h.1, by rw [← h.2]; exact Below.refl _ _⟩))
  rw [show decide (0 ≤ Lib.idxFunc otherR true s) = !allF s from idx_file s s.size 0 (by omega) (fun t ht => by omega)] at h
  exact h
set_option maxRecDepth 100000 in
theorem fileName_any (s : ByteArray) (w : World) : Calls Tryz.prog 57 #[.string s] w (Gives (.bool (fileB s)) w) := by
  by_cases h0 : s.size ≤ 64
  · have h0i : (s.size : Int) ≤ 64 := by omega
    have q1 := Lib.hid (begins_any s w)
    have q2 := Lib.hid (contains_file s w)
    cases hb : begB s
    · have hR : Hid (fileB s = false) := Lib.hid (by unfold fileB; rw [hb, Bool.false_and, Bool.and_false])
      rw [hb] at q1
      clear hb
      go_enter Tryz.func57, Tryz.ntmps57
      go_wp2_with fail
      refine q1.out.mono ?_
      rintro e w1 ⟨rfl, rfl⟩
      go_wp2
      go_ret
      exact ⟨ret_bool hR.out.symm, Below.refl _ _⟩
    · have hR : Hid (fileB s = allF s) := Lib.hid (by unfold fileB; rw [hb, decide_eq_true h0, Bool.true_and, Bool.true_and])
      rw [hb] at q1
      clear hb
      generalize fileB s = R at *
      generalize allF s = k at *
      go_enter Tryz.func57, Tryz.ntmps57
      go_wp2_with fail
      refine q1.out.mono ?_
      rintro e w1 ⟨rfl, rfl⟩
      go_wp2_with fail
      refine q2.out.mono ?_
      rintro e w2 ⟨rfl, hb2⟩
      go_wp2
      go_ret
      exact ⟨ret_bool (by rw [hR.out]; try (cases k <;> rfl)), hb2⟩
  · have h0i : ¬ (s.size : Int) ≤ 64 := by omega
    have hR : Hid (fileB s = false) := Lib.hid (by unfold fileB; rw [decide_eq_false h0, Bool.false_and])
    go_enter Tryz.func57, Tryz.ntmps57
    go_wp2
    go_ret
    exact ⟨ret_bool hR.out.symm, Below.refl _ _⟩
end Go.Proofs.YtgeliikfgnkppaaGreatDoor
namespace Go.Proofs.YtgeliikfgnkppaaGreatDoor
open Go.RowKit
set_option linter.unusedVariables false
structure RO {α : Type} (f : α → List Value) (w : World) (a : Option Addr) (n c : Nat) (l : List α) : Prop where
  len : n = l.length
  cap : n ≤ c
  max : c ≤ maxLen
  sees : SeesC w.heap.size w a (l.flatMap f)
theorem RO.below {α : Type} {f : α → List Value} {w w' : World} {a : Option Addr} {n c : Nat} {l : List α} (h : RO f w a n c l) (hb : Below w.heap.size w w') : RO f w' a n c l := ⟨h.len, h.cap, h.max, (h.sees.below hb).mono hb.size⟩
theorem RO.drewN {α : Type} {f : α → List Value} {w : World} {a : Option Addr} {n c : Nat} {l : List α} (h : RO f w a n c l) (m : Nat) : RO f (w.drewN m) a n c l := ⟨h.len, h.cap, h.max, h.sees⟩
theorem RO.nil {α : Type} {f : α → List Value} (w : World) : RO f w none 0 0 [] := ⟨rfl, Nat.le_refl _, by simp, .inl rfl⟩
theorem RO.max' {α : Type} {f : α → List Value} {w : World} {a : Option Addr} {n c : Nat} {l : List α} (h : RO f w a n c l) : n ≤ 9223372036854775807 := by
  have h1 := h.cap
  have h2 := h.max
  unfold maxLen at h2
  omega
theorem RO.at_ {α : Type} {f : α → List Value} {k : Nat} (hk : ∀ x, (f x).length = k) (h0 : 0 < k) {w : World} {a : Option Addr} {n c : Nat} {l : List α} (h : RO f w a n c l) (d : α) {i : Nat} (hi : i < n) :
    ∃ b off, a = some ⟨b, off, none⟩ ∧ b < w.heap.size ∧ ∀ j, j < k → w.cell? ⟨b, off + (i * k + j), none⟩ = (f (l.getD i d))[j]? := by
  have hl : i < l.length := by rw [← h.len]; exact hi
  rcases h.sees with e | ⟨b, off, rfl, hB, hc⟩
  · have h1 := congrArg List.length e
    rw [flat_len hk] at h1
    have h2 : 0 < l.length * k := Nat.mul_pos (by omega) h0
    simp at h1
    have : l.length * k = 0 := by simp [h1]
    omega
  · refine ⟨b, off, rfl, hB, fun j hj => ?_⟩
    have h1 : (l.flatMap f)[i * k + j]? = (f (l.getD i d))[j]? := by
      rw [flat_at hk l i j hj]
      simp [List.getD, hl]
    have h2 : j < (f (l.getD i d)).length := by rw [hk]; exact hj
    rw [List.getElem?_eq_getElem h2] at h1 ⊢
    exact hc _ _ h1
end Go.Proofs.YtgeliikfgnkppaaGreatDoor
namespace Go.Proofs.YtgeliikfgnkppaaGreatDoor
open Go.RowKit Go.ChangeShapes Go.WideShapes Go.Deep
set_option linter.unusedVariables false
set_option linter.unusedSimpArgs false
structure SpotD where
  fn : ByteArray
  file : ByteArray
  line : Int
structure EdgeD where
  frm : Int
  dst : Int
  k : Int
  x : Int
  y : Int
  c : Int
  d : Int
deriving DecidableEq
structure PD where
  nm : ByteArray
  vars : List ByteArray
  spots : List SpotD
  edges : List EdgeD
def spot0 : SpotD := ⟨e0, e0, 0⟩
def edge0 : EdgeD := ⟨0, 0, 0, 0, 0, 0, 0⟩
def spotC (s : SpotD) : List Value := [.string s.fn, .string s.file, .int .i64 s.line]
def edgeC (e : EdgeD) : List Value := [.int .i64 e.frm, .int .i64 e.dst, .int .i64 e.k, .int .i64 e.x, .int .i64 e.y, .int .i64 e.c, .int .i64 e.d]
theorem spotC_len (s : SpotD) : (spotC s).length = 3 := rfl
theorem edgeC_len (e : EdgeD) : (edgeC e).length = 7 := rfl
structure PV where
  nm : ByteArray
  a1 : Option Addr
  n1 : Nat
  c1 : Nat
  a2 : Option Addr
  n2 : Nat
  c2 : Nat
  a3 : Option Addr
  n3 : Nat
  c3 : Nat
abbrev PV.cells (p : PV) : Array Value := #[.string p.nm, .slice p.a1 p.n1 p.c1, .slice p.a2 p.n2 p.c2, .slice p.a3 p.n3 p.c3]
structure PrA (w : World) (p : PV) (D : PD) : Prop where
  nm : p.nm = D.nm
  vars : TT w p.a1 p.n1 p.c1 D.vars
  spots : RO spotC w p.a2 p.n2 p.c2 D.spots
  edges : RO edgeC w p.a3 p.n3 p.c3 D.edges
theorem PrA.below {w w' : World} {p : PV} {D : PD} (h : PrA w p D) (hb : Below w.heap.size w w') : PrA w' p D := ⟨h.nm, h.vars.below hb, h.spots.below hb, h.edges.below hb⟩
theorem PrA.drewN {w : World} {p : PV} {D : PD} (h : PrA w p D) (n : Nat) : PrA (w.drewN n) p D := h.below (Below.drewN (Below.refl _ _) n)
end Go.Proofs.YtgeliikfgnkppaaGreatDoor
namespace Go.Proofs.YtgeliikfgnkppaaGreatDoor
open Go.RowKit
set_option linter.unusedVariables false
set_option linter.unusedSimpArgs false
def spotB (s : SpotD) : Bool := nameB s.fn && (fileB s.file && (decide (1 ≤ s.line) && decide (s.line ≤ 1048576)))
def pointB (n : Nat) (x : Int) : Bool := decide (0 ≤ x) && decide (x < (n : Int))
def edgeB (n m : Nat) (e : EdgeD) : Bool := pointB n e.frm && (pointB n e.dst && rightB e.k e.x e.y e.c e.d (m : Int))
set_option maxRecDepth 100000 in
set_option maxHeartbeats 1000000 in
theorem rightSpot_any (s f : ByteArray) (x : Int) (w : World) : Calls Tryz.prog 29 #[.agg #[.string s, .string f, .int .i64 x]] w (Gives (.bool (spotB ⟨s, f, x⟩)) w) := by
  have hR : Hid (spotB ⟨s, f, x⟩ = (nameB s && (fileB f && (decide (1 ≤ x) && decide (x ≤ 1048576))))) := Lib.hid rfl
  have q1 := Lib.hid (fun W => name_any s W)
  have q2 := Lib.hid (fun W => fileName_any f W)
  generalize spotB ⟨s, f, x⟩ = R at *
  cases e1 : nameB s
  · rw [e1] at q1
    have hF : Hid (R = false) := Lib.hid (by rw [hR.out]; rw [e1]; rfl)
    clear hR
    obtain ⟨W1, hW1⟩ : ∃ W1, W1 = w.alloc (.cells #[.string s, .string f, .int .i64 x] 54) := ⟨_, rfl⟩
    have Z : Hid (Holds W1 (w.heap.size) 54 #[.string s, .string f, .int .i64 x]) := Lib.hid (by rw [hW1]; exact Holds.new w _ _)
    have BL := Lib.hid (show Below w.heap.size w W1 by rw [hW1]; exact box_below _ _ _)
    have hW1' := Lib.hid hW1
    clear hW1
    go_enter Tryz.func29, Tryz.ntmps29
    have k1 := Z.out.cell 0
    have k2 := Z.out.cell 1
    have k3 := Z.out.cell 2
    have q := Lib.hid (q1.out W1)
    go_wp2_with fail
    rw [← hW1'.out]
    with_reducible refine q.out.mono ?_
    rintro e u1 ⟨rfl, b1⟩
    clear k1 k2 k3
    clear hW1'
    clear q
    have k4 : u1.cell? ⟨w.heap.size, 0, none⟩ = some (.string s) := (Z.out.below b1 Z.out.lt).cell 0
    have k5 : u1.cell? ⟨w.heap.size, 1, none⟩ = some (.string f) := (Z.out.below b1 Z.out.lt).cell 1
    have k6 : u1.cell? ⟨w.heap.size, 2, none⟩ = some (.int .i64 x) := (Z.out.below b1 Z.out.lt).cell 2
    replace Z := Lib.hid (Z.out.below b1 Z.out.lt)
    replace BL := Lib.hid (BL.out.trans (b1.mono BL.out.size))
    clear b1
    go_wp2
    go_ret
    exact ⟨ret_bool hF.out.symm, BL.out⟩
  rw [e1] at q1
  cases e2 : fileB f
  · rw [e2] at q2
    have hF : Hid (R = false) := Lib.hid (by rw [hR.out]; rw [e1, e2]; rfl)
    clear hR
    obtain ⟨W1, hW1⟩ : ∃ W1, W1 = w.alloc (.cells #[.string s, .string f, .int .i64 x] 54) := ⟨_, rfl⟩
    have Z : Hid (Holds W1 (w.heap.size) 54 #[.string s, .string f, .int .i64 x]) := Lib.hid (by rw [hW1]; exact Holds.new w _ _)
    have BL := Lib.hid (show Below w.heap.size w W1 by rw [hW1]; exact box_below _ _ _)
    have hW1' := Lib.hid hW1
    clear hW1
    go_enter Tryz.func29, Tryz.ntmps29
    have k1 := Z.out.cell 0
    have k2 := Z.out.cell 1
    have k3 := Z.out.cell 2
    have q := Lib.hid (q1.out W1)
    go_wp2_with fail
    rw [← hW1'.out]
    with_reducible refine q.out.mono ?_
    rintro e u1 ⟨rfl, b1⟩
    clear k1 k2 k3
    clear hW1'
    clear q
    have k4 : u1.cell? ⟨w.heap.size, 0, none⟩ = some (.string s) := (Z.out.below b1 Z.out.lt).cell 0
    have k5 : u1.cell? ⟨w.heap.size, 1, none⟩ = some (.string f) := (Z.out.below b1 Z.out.lt).cell 1
    have k6 : u1.cell? ⟨w.heap.size, 2, none⟩ = some (.int .i64 x) := (Z.out.below b1 Z.out.lt).cell 2
    replace Z := Lib.hid (Z.out.below b1 Z.out.lt)
    replace BL := Lib.hid (BL.out.trans (b1.mono BL.out.size))
    clear b1
    have q := Lib.hid (q2.out u1)
    go_wp2_with fail
    with_reducible refine q.out.mono ?_
    rintro e u2 ⟨rfl, b2⟩
    clear k4 k5 k6
    clear q
    have k7 : u2.cell? ⟨w.heap.size, 0, none⟩ = some (.string s) := (Z.out.below b2 Z.out.lt).cell 0
    have k8 : u2.cell? ⟨w.heap.size, 1, none⟩ = some (.string f) := (Z.out.below b2 Z.out.lt).cell 1
    have k9 : u2.cell? ⟨w.heap.size, 2, none⟩ = some (.int .i64 x) := (Z.out.below b2 Z.out.lt).cell 2
    replace Z := Lib.hid (Z.out.below b2 Z.out.lt)
    replace BL := Lib.hid (BL.out.trans (b2.mono BL.out.size))
    clear b2
    go_wp2
    go_ret
    exact ⟨ret_bool hF.out.symm, BL.out⟩
  rw [e2] at q2
  by_cases h1 : 1 ≤ x
  · have hF : Hid (R = decide (x ≤ 1048576)) := Lib.hid (by rw [hR.out]; rw [e1, e2, decide_eq_true h1]; rfl)
    clear hR
    obtain ⟨W1, hW1⟩ : ∃ W1, W1 = w.alloc (.cells #[.string s, .string f, .int .i64 x] 54) := ⟨_, rfl⟩
    have Z : Hid (Holds W1 (w.heap.size) 54 #[.string s, .string f, .int .i64 x]) := Lib.hid (by rw [hW1]; exact Holds.new w _ _)
    have BL := Lib.hid (show Below w.heap.size w W1 by rw [hW1]; exact box_below _ _ _)
    have hW1' := Lib.hid hW1
    clear hW1
    go_enter Tryz.func29, Tryz.ntmps29
    have k1 := Z.out.cell 0
    have k2 := Z.out.cell 1
    have k3 := Z.out.cell 2
    have q := Lib.hid (q1.out W1)
    go_wp2_with fail
    rw [← hW1'.out]
    with_reducible refine q.out.mono ?_
    rintro e u1 ⟨rfl, b1⟩
    clear k1 k2 k3
    clear hW1'
    clear q
    have k4 : u1.cell? ⟨w.heap.size, 0, none⟩ = some (.string s) := (Z.out.below b1 Z.out.lt).cell 0
    have k5 : u1.cell? ⟨w.heap.size, 1, none⟩ = some (.string f) := (Z.out.below b1 Z.out.lt).cell 1
    have k6 : u1.cell? ⟨w.heap.size, 2, none⟩ = some (.int .i64 x) := (Z.out.below b1 Z.out.lt).cell 2
    replace Z := Lib.hid (Z.out.below b1 Z.out.lt)
    replace BL := Lib.hid (BL.out.trans (b1.mono BL.out.size))
    clear b1
    have q := Lib.hid (q2.out u1)
    go_wp2_with fail
    with_reducible refine q.out.mono ?_
    rintro e u2 ⟨rfl, b2⟩
    clear k4 k5 k6
    clear q
    have k7 : u2.cell? ⟨w.heap.size, 0, none⟩ = some (.string s) := (Z.out.below b2 Z.out.lt).cell 0
    have k8 : u2.cell? ⟨w.heap.size, 1, none⟩ = some (.string f) := (Z.out.below b2 Z.out.lt).cell 1
    have k9 : u2.cell? ⟨w.heap.size, 2, none⟩ = some (.int .i64 x) := (Z.out.below b2 Z.out.lt).cell 2
    replace Z := Lib.hid (Z.out.below b2 Z.out.lt)
    replace BL := Lib.hid (BL.out.trans (b2.mono BL.out.size))
    clear b2
    go_wp2
    go_ret
    exact ⟨ret_bool hF.out.symm, BL.out⟩
  · have hF : Hid (R = false) := Lib.hid (by rw [hR.out]; rw [e1, e2, decide_eq_false h1]; rfl)
    clear hR
    obtain ⟨W1, hW1⟩ : ∃ W1, W1 = w.alloc (.cells #[.string s, .string f, .int .i64 x] 54) := ⟨_, rfl⟩
    have Z : Hid (Holds W1 (w.heap.size) 54 #[.string s, .string f, .int .i64 x]) := Lib.hid (by rw [hW1]; exact Holds.new w _ _)
    have BL := Lib.hid (show Below w.heap.size w W1 by rw [hW1]; exact box_below _ _ _)
    have hW1' := Lib.hid hW1
    clear hW1
    go_enter Tryz.func29, Tryz.ntmps29
    have k1 := Z.out.cell 0
    have k2 := Z.out.cell 1
    have k3 := Z.out.cell 2
    have q := Lib.hid (q1.out W1)
    go_wp2_with fail
    rw [← hW1'.out]
    with_reducible refine q.out.mono ?_
    rintro e u1 ⟨rfl, b1⟩
    clear k1 k2 k3
    clear hW1'
    clear q
    have k4 : u1.cell? ⟨w.heap.size, 0, none⟩ = some (.string s) := (Z.out.below b1 Z.out.lt).cell 0
    have k5 : u1.cell? ⟨w.heap.size, 1, none⟩ = some (.string f) := (Z.out.below b1 Z.out.lt).cell 1
    have k6 : u1.cell? ⟨w.heap.size, 2, none⟩ = some (.int .i64 x) := (Z.out.below b1 Z.out.lt).cell 2
    replace Z := Lib.hid (Z.out.below b1 Z.out.lt)
    replace BL := Lib.hid (BL.out.trans (b1.mono BL.out.size))
    clear b1
    have q := Lib.hid (q2.out u1)
    go_wp2_with fail
    with_reducible refine q.out.mono ?_
    rintro e u2 ⟨rfl, b2⟩
    clear k4 k5 k6
    clear q
    have k7 : u2.cell? ⟨w.heap.size, 0, none⟩ = some (.string s) := (Z.out.below b2 Z.out.lt).cell 0
    have k8 : u2.cell? ⟨w.heap.size, 1, none⟩ = some (.string f) := (Z.out.below b2 Z.out.lt).cell 1
    have k9 : u2.cell? ⟨w.heap.size, 2, none⟩ = some (.int .i64 x) := (Z.out.below b2 Z.out.lt).cell 2
    replace Z := Lib.hid (Z.out.below b2 Z.out.lt)
    replace BL := Lib.hid (BL.out.trans (b2.mono BL.out.size))
    clear b2
    go_wp2
    go_ret
    exact ⟨ret_bool hF.out.symm, BL.out⟩
set_option maxRecDepth 100000 in
set_option maxHeartbeats 1000000 in
theorem badSpot_any (s f : ByteArray) (x : Int) (w : World) : Calls Tryz.prog 28 #[.agg #[.string s, .string f, .int .i64 x]] w (Gives (.bool (!spotB ⟨s, f, x⟩)) w) := by
  have q1 := Lib.hid (fun W => rightSpot_any s f x W)
  generalize spotB ⟨s, f, x⟩ = R at *
  obtain ⟨W1, hW1⟩ : ∃ W1, W1 = w.alloc (.cells #[.string s, .string f, .int .i64 x] 54) := ⟨_, rfl⟩
  have Z : Hid (Holds W1 (w.heap.size) 54 #[.string s, .string f, .int .i64 x]) := Lib.hid (by rw [hW1]; exact Holds.new w _ _)
  have BL := Lib.hid (show Below w.heap.size w W1 by rw [hW1]; exact box_below _ _ _)
  have hW1' := Lib.hid hW1
  clear hW1
  go_enter Tryz.func28, Tryz.ntmps28
  have k1 := Z.out.cell 0
  have k2 := Z.out.cell 1
  have k3 := Z.out.cell 2
  have q := Lib.hid (q1.out W1)
  go_wp2_with fail
  rw [← hW1'.out]
  with_reducible refine q.out.mono ?_
  rintro e u1 ⟨rfl, b1⟩
  clear k1 k2 k3
  clear hW1'
  clear q
  replace Z := Lib.hid (Z.out.below b1 Z.out.lt)
  replace BL := Lib.hid (BL.out.trans (b1.mono BL.out.size))
  clear b1
  go_wp2
  go_ret
  exact ⟨rfl, BL.out⟩
set_option maxRecDepth 100000 in
theorem isPoint_any (p : PV) (x : Int) (w : World) : Calls Tryz.prog 58 #[.agg #[.string p.nm, .slice p.a1 p.n1 p.c1, .slice p.a2 p.n2 p.c2, .slice p.a3 p.n3 p.c3], .int .i64 x] w (Gives (.bool (pointB p.n2 x)) w) := by
  have hR : Hid (pointB p.n2 x = (decide (0 ≤ x) && decide (x < (p.n2 : Int)))) := Lib.hid rfl
  have hB := Lib.hid (box_below w #[.string p.nm, .slice p.a1 p.n1 p.c1, .slice p.a2 p.n2 p.c2, .slice p.a3 p.n3 p.c3] 26)
  by_cases h : 0 ≤ x
  · have hF : Hid (pointB p.n2 x = decide (x < (p.n2 : Int))) := Lib.hid (by rw [hR.out, decide_eq_true h]; rfl)
    go_enter Tryz.func58, Tryz.ntmps58
    go_wp2
    go_ret
    exact ⟨ret_bool hF.out.symm, hB.out⟩
  · have hF : Hid (pointB p.n2 x = false) := Lib.hid (by rw [hR.out, decide_eq_false h]; rfl)
    go_enter Tryz.func58, Tryz.ntmps58
    go_wp2
    go_ret
    exact ⟨ret_bool hF.out.symm, hB.out⟩
set_option maxRecDepth 100000 in
set_option maxHeartbeats 1000000 in
theorem rightEdge_any (p : PV) (fr ds k x y c d : Int) (w : World) : Calls Tryz.prog 31 #[.agg #[.string p.nm, .slice p.a1 p.n1 p.c1, .slice p.a2 p.n2 p.c2, .slice p.a3 p.n3 p.c3], .agg #[.int .i64 fr, .int .i64 ds, .int .i64 k, .int .i64 x, .int .i64 y, .int .i64 c, .int .i64 d]] w (Gives (.bool (edgeB p.n2 p.n1 ⟨fr, ds, k, x, y, c, d⟩)) w) := by
  have hR : Hid (edgeB p.n2 p.n1 ⟨fr, ds, k, x, y, c, d⟩ = (pointB p.n2 fr && (pointB p.n2 ds && rightB k x y c d (p.n1 : Int)))) := Lib.hid rfl
  have q1 := Lib.hid (fun W => isPoint_any p fr W)
  have q2 := Lib.hid (fun W => isPoint_any p ds W)
  have q3 := Lib.hid (fun W => right_any k x y c d (p.n1 : Int) W)
  generalize edgeB p.n2 p.n1 ⟨fr, ds, k, x, y, c, d⟩ = R at *
  generalize rightB k x y c d (p.n1 : Int) = b3 at *
  generalize pointB p.n2 fr = b1 at *
  generalize pointB p.n2 ds = b2 at *
  cases b1
  · have hF : Hid (R = false) := Lib.hid (by rw [hR.out]; rfl)
    clear hR
    obtain ⟨W1, hW1⟩ : ∃ W1, W1 = (w.alloc (.cells #[.string p.nm, .slice p.a1 p.n1 p.c1, .slice p.a2 p.n2 p.c2, .slice p.a3 p.n3 p.c3] 26)).alloc (.cells #[.int .i64 fr, .int .i64 ds, .int .i64 k, .int .i64 x, .int .i64 y, .int .i64 c, .int .i64 d] 52) := ⟨_, rfl⟩
    have Z : Hid (Holds W1 (w.heap.size) 26 #[.string p.nm, .slice p.a1 p.n1 p.c1, .slice p.a2 p.n2 p.c2, .slice p.a3 p.n3 p.c3]) := Lib.hid (by rw [hW1]; exact (Holds.new w _ _).alloc _)
    have V : Hid (Holds W1 (w.heap.size + 1) 52 #[.int .i64 fr, .int .i64 ds, .int .i64 k, .int .i64 x, .int .i64 y, .int .i64 c, .int .i64 d]) := Lib.hid (by rw [hW1]; have := Holds.new (w.alloc (.cells #[.string p.nm, .slice p.a1 p.n1 p.c1, .slice p.a2 p.n2 p.c2, .slice p.a3 p.n3 p.c3] 26)) 52 #[.int .i64 fr, .int .i64 ds, .int .i64 k, .int .i64 x, .int .i64 y, .int .i64 c, .int .i64 d]; simpa using this)
    have BL := Lib.hid (show Below w.heap.size w W1 by rw [hW1]; exact box2_below _ _ _ _ _)
    have hW1' := Lib.hid hW1
    clear hW1
    go_enter Tryz.func31, Tryz.ntmps31
    have k1 := Z.out.cell 0
    have k2 := Z.out.cell 1
    have k3 := Z.out.cell 2
    have k4 := Z.out.cell 3
    have k5 := V.out.cell 0
    have k6 := V.out.cell 1
    have k7 := V.out.cell 2
    have k8 := V.out.cell 3
    have k9 := V.out.cell 4
    have k10 := V.out.cell 5
    have k11 := V.out.cell 6
    have q := Lib.hid (q1.out W1)
    go_wp2_with fail
    rw [← hW1'.out]
    with_reducible refine q.out.mono ?_
    rintro e u1 ⟨rfl, b1⟩
    clear k1 k2 k3 k4 k5 k6 k7 k8 k9 k10 k11
    clear hW1'
    clear q
    have k12 : u1.cell? ⟨w.heap.size, 0, none⟩ = some (.string p.nm) := (Z.out.below b1 Z.out.lt).cell 0
    have k13 : u1.cell? ⟨w.heap.size, 1, none⟩ = some (.slice p.a1 p.n1 p.c1) := (Z.out.below b1 Z.out.lt).cell 1
    have k14 : u1.cell? ⟨w.heap.size, 2, none⟩ = some (.slice p.a2 p.n2 p.c2) := (Z.out.below b1 Z.out.lt).cell 2
    have k15 : u1.cell? ⟨w.heap.size, 3, none⟩ = some (.slice p.a3 p.n3 p.c3) := (Z.out.below b1 Z.out.lt).cell 3
    have k16 : u1.cell? ⟨w.heap.size + 1, 0, none⟩ = some (.int .i64 fr) := (V.out.below b1 V.out.lt).cell 0
    have k17 : u1.cell? ⟨w.heap.size + 1, 1, none⟩ = some (.int .i64 ds) := (V.out.below b1 V.out.lt).cell 1
    have k18 : u1.cell? ⟨w.heap.size + 1, 2, none⟩ = some (.int .i64 k) := (V.out.below b1 V.out.lt).cell 2
    have k19 : u1.cell? ⟨w.heap.size + 1, 3, none⟩ = some (.int .i64 x) := (V.out.below b1 V.out.lt).cell 3
    have k20 : u1.cell? ⟨w.heap.size + 1, 4, none⟩ = some (.int .i64 y) := (V.out.below b1 V.out.lt).cell 4
    have k21 : u1.cell? ⟨w.heap.size + 1, 5, none⟩ = some (.int .i64 c) := (V.out.below b1 V.out.lt).cell 5
    have k22 : u1.cell? ⟨w.heap.size + 1, 6, none⟩ = some (.int .i64 d) := (V.out.below b1 V.out.lt).cell 6
    replace Z := Lib.hid (Z.out.below b1 Z.out.lt)
    replace V := Lib.hid (V.out.below b1 V.out.lt)
    replace BL := Lib.hid (BL.out.trans (b1.mono BL.out.size))
    clear b1
    go_wp2
    go_ret
    exact ⟨ret_bool hF.out.symm, BL.out⟩
  cases b2
  · have hF : Hid (R = false) := Lib.hid (by rw [hR.out]; rfl)
    clear hR
    obtain ⟨W1, hW1⟩ : ∃ W1, W1 = (w.alloc (.cells #[.string p.nm, .slice p.a1 p.n1 p.c1, .slice p.a2 p.n2 p.c2, .slice p.a3 p.n3 p.c3] 26)).alloc (.cells #[.int .i64 fr, .int .i64 ds, .int .i64 k, .int .i64 x, .int .i64 y, .int .i64 c, .int .i64 d] 52) := ⟨_, rfl⟩
    have Z : Hid (Holds W1 (w.heap.size) 26 #[.string p.nm, .slice p.a1 p.n1 p.c1, .slice p.a2 p.n2 p.c2, .slice p.a3 p.n3 p.c3]) := Lib.hid (by rw [hW1]; exact (Holds.new w _ _).alloc _)
    have V : Hid (Holds W1 (w.heap.size + 1) 52 #[.int .i64 fr, .int .i64 ds, .int .i64 k, .int .i64 x, .int .i64 y, .int .i64 c, .int .i64 d]) := Lib.hid (by rw [hW1]; have := Holds.new (w.alloc (.cells #[.string p.nm, .slice p.a1 p.n1 p.c1, .slice p.a2 p.n2 p.c2, .slice p.a3 p.n3 p.c3] 26)) 52 #[.int .i64 fr, .int .i64 ds, .int .i64 k, .int .i64 x, .int .i64 y, .int .i64 c, .int .i64 d]; simpa using this)
    have BL := Lib.hid (show Below w.heap.size w W1 by rw [hW1]; exact box2_below _ _ _ _ _)
    have hW1' := Lib.hid hW1
    clear hW1
    go_enter Tryz.func31, Tryz.ntmps31
    have k1 := Z.out.cell 0
    have k2 := Z.out.cell 1
    have k3 := Z.out.cell 2
    have k4 := Z.out.cell 3
    have k5 := V.out.cell 0
    have k6 := V.out.cell 1
    have k7 := V.out.cell 2
    have k8 := V.out.cell 3
    have k9 := V.out.cell 4
    have k10 := V.out.cell 5
    have k11 := V.out.cell 6
    have q := Lib.hid (q1.out W1)
    go_wp2_with fail
    rw [← hW1'.out]
    with_reducible refine q.out.mono ?_
    rintro e u1 ⟨rfl, b1⟩
    clear k1 k2 k3 k4 k5 k6 k7 k8 k9 k10 k11
    clear hW1'
    clear q
    have k12 : u1.cell? ⟨w.heap.size, 0, none⟩ = some (.string p.nm) := (Z.out.below b1 Z.out.lt).cell 0
    have k13 : u1.cell? ⟨w.heap.size, 1, none⟩ = some (.slice p.a1 p.n1 p.c1) := (Z.out.below b1 Z.out.lt).cell 1
    have k14 : u1.cell? ⟨w.heap.size, 2, none⟩ = some (.slice p.a2 p.n2 p.c2) := (Z.out.below b1 Z.out.lt).cell 2
    have k15 : u1.cell? ⟨w.heap.size, 3, none⟩ = some (.slice p.a3 p.n3 p.c3) := (Z.out.below b1 Z.out.lt).cell 3
    have k16 : u1.cell? ⟨w.heap.size + 1, 0, none⟩ = some (.int .i64 fr) := (V.out.below b1 V.out.lt).cell 0
    have k17 : u1.cell? ⟨w.heap.size + 1, 1, none⟩ = some (.int .i64 ds) := (V.out.below b1 V.out.lt).cell 1
    have k18 : u1.cell? ⟨w.heap.size + 1, 2, none⟩ = some (.int .i64 k) := (V.out.below b1 V.out.lt).cell 2
    have k19 : u1.cell? ⟨w.heap.size + 1, 3, none⟩ = some (.int .i64 x) := (V.out.below b1 V.out.lt).cell 3
    have k20 : u1.cell? ⟨w.heap.size + 1, 4, none⟩ = some (.int .i64 y) := (V.out.below b1 V.out.lt).cell 4
    have k21 : u1.cell? ⟨w.heap.size + 1, 5, none⟩ = some (.int .i64 c) := (V.out.below b1 V.out.lt).cell 5
    have k22 : u1.cell? ⟨w.heap.size + 1, 6, none⟩ = some (.int .i64 d) := (V.out.below b1 V.out.lt).cell 6
    replace Z := Lib.hid (Z.out.below b1 Z.out.lt)
    replace V := Lib.hid (V.out.below b1 V.out.lt)
    replace BL := Lib.hid (BL.out.trans (b1.mono BL.out.size))
    clear b1
    have q := Lib.hid (q2.out u1)
    go_wp2_with fail
    with_reducible refine q.out.mono ?_
    rintro e u2 ⟨rfl, b2⟩
    clear k12 k13 k14 k15 k16 k17 k18 k19 k20 k21 k22
    clear q
    have k23 : u2.cell? ⟨w.heap.size, 0, none⟩ = some (.string p.nm) := (Z.out.below b2 Z.out.lt).cell 0
    have k24 : u2.cell? ⟨w.heap.size, 1, none⟩ = some (.slice p.a1 p.n1 p.c1) := (Z.out.below b2 Z.out.lt).cell 1
    have k25 : u2.cell? ⟨w.heap.size, 2, none⟩ = some (.slice p.a2 p.n2 p.c2) := (Z.out.below b2 Z.out.lt).cell 2
    have k26 : u2.cell? ⟨w.heap.size, 3, none⟩ = some (.slice p.a3 p.n3 p.c3) := (Z.out.below b2 Z.out.lt).cell 3
    have k27 : u2.cell? ⟨w.heap.size + 1, 0, none⟩ = some (.int .i64 fr) := (V.out.below b2 V.out.lt).cell 0
    have k28 : u2.cell? ⟨w.heap.size + 1, 1, none⟩ = some (.int .i64 ds) := (V.out.below b2 V.out.lt).cell 1
    have k29 : u2.cell? ⟨w.heap.size + 1, 2, none⟩ = some (.int .i64 k) := (V.out.below b2 V.out.lt).cell 2
    have k30 : u2.cell? ⟨w.heap.size + 1, 3, none⟩ = some (.int .i64 x) := (V.out.below b2 V.out.lt).cell 3
    have k31 : u2.cell? ⟨w.heap.size + 1, 4, none⟩ = some (.int .i64 y) := (V.out.below b2 V.out.lt).cell 4
    have k32 : u2.cell? ⟨w.heap.size + 1, 5, none⟩ = some (.int .i64 c) := (V.out.below b2 V.out.lt).cell 5
    have k33 : u2.cell? ⟨w.heap.size + 1, 6, none⟩ = some (.int .i64 d) := (V.out.below b2 V.out.lt).cell 6
    replace Z := Lib.hid (Z.out.below b2 Z.out.lt)
    replace V := Lib.hid (V.out.below b2 V.out.lt)
    replace BL := Lib.hid (BL.out.trans (b2.mono BL.out.size))
    clear b2
    go_wp2
    go_ret
    exact ⟨ret_bool hF.out.symm, BL.out⟩
  have hF : Hid (R = b3) := Lib.hid (by rw [hR.out]; rfl)
  clear hR
  obtain ⟨W1, hW1⟩ : ∃ W1, W1 = (w.alloc (.cells #[.string p.nm, .slice p.a1 p.n1 p.c1, .slice p.a2 p.n2 p.c2, .slice p.a3 p.n3 p.c3] 26)).alloc (.cells #[.int .i64 fr, .int .i64 ds, .int .i64 k, .int .i64 x, .int .i64 y, .int .i64 c, .int .i64 d] 52) := ⟨_, rfl⟩
  have Z : Hid (Holds W1 (w.heap.size) 26 #[.string p.nm, .slice p.a1 p.n1 p.c1, .slice p.a2 p.n2 p.c2, .slice p.a3 p.n3 p.c3]) := Lib.hid (by rw [hW1]; exact (Holds.new w _ _).alloc _)
  have V : Hid (Holds W1 (w.heap.size + 1) 52 #[.int .i64 fr, .int .i64 ds, .int .i64 k, .int .i64 x, .int .i64 y, .int .i64 c, .int .i64 d]) := Lib.hid (by rw [hW1]; have := Holds.new (w.alloc (.cells #[.string p.nm, .slice p.a1 p.n1 p.c1, .slice p.a2 p.n2 p.c2, .slice p.a3 p.n3 p.c3] 26)) 52 #[.int .i64 fr, .int .i64 ds, .int .i64 k, .int .i64 x, .int .i64 y, .int .i64 c, .int .i64 d]; simpa using this)
  have BL := Lib.hid (show Below w.heap.size w W1 by rw [hW1]; exact box2_below _ _ _ _ _)
  have hW1' := Lib.hid hW1
  clear hW1
  go_enter Tryz.func31, Tryz.ntmps31
  have k1 := Z.out.cell 0
  have k2 := Z.out.cell 1
  have k3 := Z.out.cell 2
  have k4 := Z.out.cell 3
  have k5 := V.out.cell 0
  have k6 := V.out.cell 1
  have k7 := V.out.cell 2
  have k8 := V.out.cell 3
  have k9 := V.out.cell 4
  have k10 := V.out.cell 5
  have k11 := V.out.cell 6
  have q := Lib.hid (q1.out W1)
  go_wp2_with fail
  rw [← hW1'.out]
  with_reducible refine q.out.mono ?_
  rintro e u1 ⟨rfl, b1⟩
  clear k1 k2 k3 k4 k5 k6 k7 k8 k9 k10 k11
  clear hW1'
  clear q
  have k12 : u1.cell? ⟨w.heap.size, 0, none⟩ = some (.string p.nm) := (Z.out.below b1 Z.out.lt).cell 0
  have k13 : u1.cell? ⟨w.heap.size, 1, none⟩ = some (.slice p.a1 p.n1 p.c1) := (Z.out.below b1 Z.out.lt).cell 1
  have k14 : u1.cell? ⟨w.heap.size, 2, none⟩ = some (.slice p.a2 p.n2 p.c2) := (Z.out.below b1 Z.out.lt).cell 2
  have k15 : u1.cell? ⟨w.heap.size, 3, none⟩ = some (.slice p.a3 p.n3 p.c3) := (Z.out.below b1 Z.out.lt).cell 3
  have k16 : u1.cell? ⟨w.heap.size + 1, 0, none⟩ = some (.int .i64 fr) := (V.out.below b1 V.out.lt).cell 0
  have k17 : u1.cell? ⟨w.heap.size + 1, 1, none⟩ = some (.int .i64 ds) := (V.out.below b1 V.out.lt).cell 1
  have k18 : u1.cell? ⟨w.heap.size + 1, 2, none⟩ = some (.int .i64 k) := (V.out.below b1 V.out.lt).cell 2
  have k19 : u1.cell? ⟨w.heap.size + 1, 3, none⟩ = some (.int .i64 x) := (V.out.below b1 V.out.lt).cell 3
  have k20 : u1.cell? ⟨w.heap.size + 1, 4, none⟩ = some (.int .i64 y) := (V.out.below b1 V.out.lt).cell 4
  have k21 : u1.cell? ⟨w.heap.size + 1, 5, none⟩ = some (.int .i64 c) := (V.out.below b1 V.out.lt).cell 5
  have k22 : u1.cell? ⟨w.heap.size + 1, 6, none⟩ = some (.int .i64 d) := (V.out.below b1 V.out.lt).cell 6
  replace Z := Lib.hid (Z.out.below b1 Z.out.lt)
  replace V := Lib.hid (V.out.below b1 V.out.lt)
  replace BL := Lib.hid (BL.out.trans (b1.mono BL.out.size))
  clear b1
  have q := Lib.hid (q2.out u1)
  go_wp2_with fail
  with_reducible refine q.out.mono ?_
  rintro e u2 ⟨rfl, b2⟩
  clear k12 k13 k14 k15 k16 k17 k18 k19 k20 k21 k22
  clear q
  have k23 : u2.cell? ⟨w.heap.size, 0, none⟩ = some (.string p.nm) := (Z.out.below b2 Z.out.lt).cell 0
  have k24 : u2.cell? ⟨w.heap.size, 1, none⟩ = some (.slice p.a1 p.n1 p.c1) := (Z.out.below b2 Z.out.lt).cell 1
  have k25 : u2.cell? ⟨w.heap.size, 2, none⟩ = some (.slice p.a2 p.n2 p.c2) := (Z.out.below b2 Z.out.lt).cell 2
  have k26 : u2.cell? ⟨w.heap.size, 3, none⟩ = some (.slice p.a3 p.n3 p.c3) := (Z.out.below b2 Z.out.lt).cell 3
  have k27 : u2.cell? ⟨w.heap.size + 1, 0, none⟩ = some (.int .i64 fr) := (V.out.below b2 V.out.lt).cell 0
  have k28 : u2.cell? ⟨w.heap.size + 1, 1, none⟩ = some (.int .i64 ds) := (V.out.below b2 V.out.lt).cell 1
  have k29 : u2.cell? ⟨w.heap.size + 1, 2, none⟩ = some (.int .i64 k) := (V.out.below b2 V.out.lt).cell 2
  have k30 : u2.cell? ⟨w.heap.size + 1, 3, none⟩ = some (.int .i64 x) := (V.out.below b2 V.out.lt).cell 3
  have k31 : u2.cell? ⟨w.heap.size + 1, 4, none⟩ = some (.int .i64 y) := (V.out.below b2 V.out.lt).cell 4
  have k32 : u2.cell? ⟨w.heap.size + 1, 5, none⟩ = some (.int .i64 c) := (V.out.below b2 V.out.lt).cell 5
  have k33 : u2.cell? ⟨w.heap.size + 1, 6, none⟩ = some (.int .i64 d) := (V.out.below b2 V.out.lt).cell 6
  replace Z := Lib.hid (Z.out.below b2 Z.out.lt)
  replace V := Lib.hid (V.out.below b2 V.out.lt)
  replace BL := Lib.hid (BL.out.trans (b2.mono BL.out.size))
  clear b2
  have q := Lib.hid (q3.out u2)
  go_wp2_with fail
  with_reducible refine q.out.mono ?_
  rintro e u3 ⟨rfl, b3⟩
  clear k23 k24 k25 k26 k27 k28 k29 k30 k31 k32 k33
  clear q
  replace Z := Lib.hid (Z.out.below b3 Z.out.lt)
  replace V := Lib.hid (V.out.below b3 V.out.lt)
  replace BL := Lib.hid (BL.out.trans (b3.mono BL.out.size))
  clear b3
  go_wp2
  go_ret
  exact ⟨ret_bool hF.out.symm, BL.out⟩
set_option maxRecDepth 100000 in
set_option maxHeartbeats 1000000 in
theorem badEdge_any (p : PV) (g : Nat) (fr ds k x y c d : Int) (w : World) (h : Holds w g 26 p.cells) : Calls Tryz.prog 30 #[.agg #[.int .i64 fr, .int .i64 ds, .int .i64 k, .int .i64 x, .int .i64 y, .int .i64 c, .int .i64 d], .pointer (some ⟨g, 0, none⟩)] w (Gives (.bool (!edgeB p.n2 p.n1 ⟨fr, ds, k, x, y, c, d⟩)) w) := by
  have q1 := Lib.hid (fun W => rightEdge_any p fr ds k x y c d W)
  generalize edgeB p.n2 p.n1 ⟨fr, ds, k, x, y, c, d⟩ = R at *
  have hg := h.lt
  obtain ⟨W1, hW1⟩ : ∃ W1, W1 = w.alloc (.cells #[.int .i64 fr, .int .i64 ds, .int .i64 k, .int .i64 x, .int .i64 y, .int .i64 c, .int .i64 d] 52) := ⟨_, rfl⟩
  have V : Hid (Holds W1 (w.heap.size) 52 #[.int .i64 fr, .int .i64 ds, .int .i64 k, .int .i64 x, .int .i64 y, .int .i64 c, .int .i64 d]) := Lib.hid (by rw [hW1]; exact Holds.new w _ _)
  have Z : Hid (Holds W1 (g) 26 #[.string p.nm, .slice p.a1 p.n1 p.c1, .slice p.a2 p.n2 p.c2, .slice p.a3 p.n3 p.c3]) := Lib.hid (by rw [hW1]; exact h.alloc _)
  have BL := Lib.hid (show Below w.heap.size w W1 by rw [hW1]; exact box_below _ _ _)
  have hW1' := Lib.hid hW1
  clear hW1
  have g0 := h.cell 0
  have g1 := h.cell 1
  have g2 := h.cell 2
  have g3 := h.cell 3
  clear h
  go_enter Tryz.func30, Tryz.ntmps30
  have k1 := V.out.cell 0
  have k2 := V.out.cell 1
  have k3 := V.out.cell 2
  have k4 := V.out.cell 3
  have k5 := V.out.cell 4
  have k6 := V.out.cell 5
  have k7 := V.out.cell 6
  have q := Lib.hid (q1.out W1)
  go_wp2_with fail
  rw [← hW1'.out]
  with_reducible refine q.out.mono ?_
  rintro e u1 ⟨rfl, b1⟩
  clear k1 k2 k3 k4 k5 k6 k7
  clear hW1'
  clear q
  replace V := Lib.hid (V.out.below b1 V.out.lt)
  replace Z := Lib.hid (Z.out.below b1 Z.out.lt)
  replace BL := Lib.hid (BL.out.trans (b1.mono BL.out.size))
  clear b1
  go_wp2
  go_ret
  exact ⟨rfl, BL.out⟩
end Go.Proofs.YtgeliikfgnkppaaGreatDoor
