/-
  Words and walks under the law's proof.
-/
import Derived.Test.YtpchncpcckfghaaGreatRows
import Derived.Lib.Hide
import Derived.Shelf.SlSortCmp.NoneTotal
import Derived.IntWalk
import Derived.WalkMore
import Derived.Deep.LoopGhost
import Derived.Test.YtpchncpcckfghaaGreatQO01
import Derived.Test.YtpchncpcckfghaaGreatQO02
import Derived.Test.YtpchncpcckfghaaGreatQO03
namespace Go.Proofs.YtpchncpcckfghaaGreat
open Go.RowKit
set_option linter.unusedVariables false
set_option linter.unusedSimpArgs false
set_option maxRecDepth 100000 in
set_option maxHeartbeats 1000000 in
theorem match2_any (w : World) (a : Option Addr) (n c gs : Nat) (ps : List Int) (T : TypeId) (hn : n ≤ 4096) (hl : n = ps.length) (hs : ∀ t j, t ≤ j → j < n → ps.getD t 0 ≤ ps.getD j 0) (hp : Sees .u64 w.heap.size w a ps) (hg : Holds w gs T #[.slice a n c]) (k : Int) (f : Int) (s : ByteArray) :
    Calls Tryz.prog 37 #[.int .i64 k, .agg #[.int .u64 f, .string s], .pointer (some ⟨gs, 0, none⟩)] w (Gives (.bool (decide (f ∈ ps))) w) := by
  obtain ⟨V, hV⟩ : ∃ V, V = w.alloc (.cells #[.int .u64 f, .string s] 40) := ⟨_, rfl⟩
  have bV : Below w.heap.size w V := by rw [hV]; exact box_below _ _ _
  have HB : Holds V w.heap.size 40 #[.int .u64 f, .string s] := by rw [hV]; exact Holds.new _ _ _
  have HG := hg.below bV hg.lt
  have x0 := HB.cell 0
  have y0 := HG.cell 0
  simp at x0 y0
  have q := Lib.hid (bs64_any a n c ps f hn hl hs V ((hp.below bV).mono bV.size))
  generalize decide (f ∈ ps) = E at *
  have hV' := Lib.hid hV
  have bV' := Lib.hid bV
  clear hV bV HB HG hg hp hs
  go_enter Tryz.func37, Tryz.ntmps37
  go_upto_region 1 with (fail)
  rw [← hV'.out]
  clear hl hn
  go_wp2_with fail
  refine q.out.mono ?_
  rintro e w1 ⟨⟨i, rfl⟩, hw1⟩
  subst hw1
  go_wp2
  exact bodyPost_ret (results_tmp rfl _ _ _) rfl ⟨rfl, bV'.out⟩
set_option maxRecDepth 100000 in
set_option maxHeartbeats 1000000 in
theorem match1_any (w : World) (a : Option Addr) (n c gl : Nat) (l : List MkD) (hn : n ≤ 4096) (hr : riseM l) (h : RO mkC w a n c l) (T T2 : TypeId) (hg : Holds w gl T #[.slice a n c])
    (ap : Option Addr) (np cp gp : Nat) (ps : List Int) (hl : np = ps.length) (hp : Sees .u64 w.heap.size w ap ps) (hg2 : Holds w gp T2 #[.slice ap np cp]) (hm : np ≤ 4096) (k : Nat) (hk : k < np) (x : AlD) :
    Calls Tryz.prog 34 #[.int .i64 k, .agg #[.int .i64 x.kind, .int .i64 x.sev, .string x.fn, .string x.file, .int .i64 x.line, .string x.expr], .pointer (some ⟨gl, 0, none⟩), .pointer (some ⟨gp, 0, none⟩)] w (Gives (.bool (hasB l (ps.getD k 0))) w) := by
  obtain ⟨V, hV⟩ : ∃ V, V = w.alloc (.cells #[.int .i64 x.kind, .int .i64 x.sev, .string x.fn, .string x.file, .int .i64 x.line, .string x.expr] 54) := ⟨_, rfl⟩
  have bV : Below w.heap.size w V := by rw [hV]; exact box_below _ _ _
  have HG := hg.below bV hg.lt
  have HG2 := hg2.below bV hg2.lt
  have y0 := HG.cell 0
  have y1 := HG2.cell 0
  simp at y0 y1
  have hkl : k < ps.length := by omega
  have hkn : (k : Int) < (np : Int) := by omega
  obtain ⟨b, off, rfl, hbl, z0⟩ : ∃ b off, ap = some ⟨b, off, none⟩ ∧ b < V.heap.size ∧ V.cell? ⟨b, off + k, none⟩ = some (.int .u64 (ps.getD k 0)) := by
    rcases (hp.below bV).mono bV.size with e | ⟨b, off, e, hb, hc⟩
    · rw [e] at hkl; simp at hkl
    · exact ⟨b, off, e, hb, hc k hkl⟩
  generalize ps.getD k 0 = f at *
  have h0 : ∀ W, Below V.heap.size V W → W.cell? ⟨gl, 0, none⟩ = some (.slice a n c) := fun W hW => (hW.cell (p := ⟨gl, 0, none⟩) HG.lt).trans y0
  have h1 : ∀ W, Below V.heap.size V W → W.cell? ⟨gp, 0, none⟩ = some (.slice (some ⟨b, off, none⟩) np cp) := fun W hW => (hW.cell (p := ⟨gp, 0, none⟩) HG2.lt).trans y1
  have h2 : ∀ W, Below V.heap.size V W → W.cell? ⟨b, off + k, none⟩ = some (.int .u64 f) := fun W hW => (hW.cell (p := ⟨b, off + k, none⟩) hbl).trans z0
  have q := Lib.hid (fun W hW => bfind_any a n c l f hn hr W ((h.below bV).below hW))
  unfold MkE at q
  generalize (if hasB l f = true then f else 0) = f' at *
  generalize (look l f).getD ⟨#[]⟩ = s' at *
  generalize hasB l f = B at *
  have hV' := Lib.hid hV
  have bV' := Lib.hid bV
  clear hV bV HG HG2 hg hg2 hp h y0 y1 z0
  go_enter Tryz.func34, Tryz.ntmps34
  go_upto_region 1 with (fail)
  rw [← hV'.out]
  go_wp2
  refine wp_drawn_on (fun W => Below V.heap.size V W) (by kernel_rfl) ((Below.refl _ _).drew) (fun hHeld => ?_)
  refine wT 0 (v := ?v1) rfl (by kernel_rfl) (fun _ _ _ h => h) ?h1 (by assumption) ?r1
  case h1 => (intro w hSw; (try dsimp only at hSw); go_simp; try with_reducible rfl)
  refine wT 1 (v := ?v2) rfl (by kernel_rfl) (fun _ _ _ h => h) ?h2 (by assumption) ?r2
  case h2 => (intro w hSw; (try dsimp only at hSw); go_simp; try with_reducible rfl)
  refine wT 2 (v := ?v3) rfl (by kernel_rfl) (fun _ _ _ h => h) ?h3 (by assumption) ?r3
  case h3 => (intro w hSw; (try dsimp only at hSw); go_simp; try with_reducible rfl)
  refine wT 3 (v := ?v4) rfl (by kernel_rfl) (fun _ _ _ h => h) ?h4 (by assumption) ?r4
  case h4 => (intro w hSw; (try dsimp only at hSw); go_simp; try with_reducible rfl)
  refine wT 4 (v := ?v5) rfl (by kernel_rfl) (fun _ _ _ h => h) ?h5 (by assumption) ?r5
  case h5 => (intro w hSw; (try dsimp only at hSw); go_simp; try with_reducible rfl)
  try simp only [Act.put, List.setIfInBounds_toArray, List.set_cons_zero, List.set_cons_succ]
  refine wpAnyH_ready (rs := [5, 9]) (by kernel_rfl) (by simp) ?_
  refine AllReadyH.cons (o := ⟨_, _, _, _, _, _⟩) rfl (fun K hK => ?_) (AllReadyH.cons (o := ⟨_, _, _, _, _, _⟩) rfl (fun K hK => ?_) AllReadyH.nil)
  · go_simp
    with_reducible refine (q.out _ hHeld).mono ?_
    rintro e w5 ⟨rfl, b5⟩
    have hx5 := hHeld.trans (b5.mono hHeld.size)
    go_simp
    refine hK.out _ _ (hx5) (fun hHeld => ?_)
    clear hK K
    refine wT 6 (v := ?v6) rfl (by kernel_rfl) (fun _ _ _ h => h) ?h6 (by assumption) ?r6
    case h6 => (intro w hSw; (try dsimp only at hSw); go_simp; try with_reducible rfl)
    refine wT 7 (v := ?v7) rfl (by kernel_rfl) (fun _ _ _ h => h) ?h7 (by assumption) ?r7
    case h7 => (intro w hSw; (try dsimp only at hSw); go_simp; try with_reducible rfl)
    refine wT 8 (v := ?v8) rfl (by kernel_rfl) (fun _ _ _ h => h) ?h8 (by assumption) ?r8
    case h8 => (intro w hSw; (try dsimp only at hSw); go_simp; try with_reducible rfl)
    try simp only [Act.put, List.setIfInBounds_toArray, List.set_cons_zero, List.set_cons_succ]
    refine wpAnyH_ready (rs := [9]) (by kernel_rfl) (by simp) ?_
    refine AllReadyH.cons (o := ⟨_, _, _, _, _, _⟩) rfl (fun K hK => ?_) AllReadyH.nil
    go_simp
    have hx9 := hHeld.alloc hHeld.size (.cells #[.int .u64 0, .string ⟨#[]⟩] 40)
    first | have hzA := Holds.new w5 40 #[.int .u64 0, .string ⟨#[]⟩] | have hz9 := Holds.new V 40 #[.int .u64 0, .string ⟨#[]⟩]
    refine hK.out _ _ (hx9) (fun hHeld => ?_)
    clear hK K
    try simp only [Act.put, List.setIfInBounds_toArray, List.set_cons_zero, List.set_cons_succ]
    refine wpAnyH_ready (rs := [10]) (by kernel_rfl) (by simp) ?_
    refine AllReadyH.cons (o := ⟨_, _, _, _, _, _⟩) rfl (fun K hK => ?_) AllReadyH.nil
    first | (have hzB := Holds.below (g := V.heap.size) hz9.drew b5 hz9.lt; have q0 := hzB.cell 0; have q1 := hzB.cell 1; have r0 := hzB.free 0; have r1 := hzB.free 1; simp at q0 q1; go_simp; have hx10 := bl_set (bl_set hHeld (p := ⟨V.heap.size, 0, none⟩) (Nat.le_refl _) (.int .u64 f')) (p := ⟨V.heap.size, 1, none⟩) (Nat.le_refl _) (.string s'); generalize (w5.setCell ⟨V.heap.size, 0, none⟩ (.int .u64 f')).setCell ⟨V.heap.size, 1, none⟩ (.string s') = w10 at hx10 ⊢; clear q0 q1 r0 r1 hzB hz9) | (go_simp; have hx10 := hx5.alloc hx5.size (.cells #[.int .u64 f', .string s'] 40); generalize w5.alloc (.cells #[.int .u64 f', .string s'] 40) = w10 at hx10 ⊢; clear hzA)
    refine hK.out _ _ (hx10) (fun hHeld => ?_)
    clear hK K
    refine wT 11 (v := ?v9) rfl (by kernel_rfl) (fun _ _ _ h => h) ?h9 (by assumption) ?r9
    case h9 => (intro w hSw; (try dsimp only at hSw); go_simp; try with_reducible rfl)
    try simp only [Act.put, List.setIfInBounds_toArray, List.set_cons_zero, List.set_cons_succ]
    refine wpAnyH_done (by kernel_rfl) ?_ _
    clear h0 h1 h2 hx9
    go_wp2
    go_ret
    exact ⟨rfl, bV'.out.trans (hHeld.mono bV'.out.size)⟩
  · go_simp
    have hx9 := hHeld.alloc hHeld.size (.cells #[.int .u64 0, .string ⟨#[]⟩] 40)
    first | have hzA := Holds.new w5 40 #[.int .u64 0, .string ⟨#[]⟩] | have hz9 := Holds.new V 40 #[.int .u64 0, .string ⟨#[]⟩]
    refine hK.out _ _ (hx9) (fun hHeld => ?_)
    clear hK K
    try simp only [Act.put, List.setIfInBounds_toArray, List.set_cons_zero, List.set_cons_succ]
    refine wpAnyH_ready (rs := [5]) (by kernel_rfl) (by simp) ?_
    refine AllReadyH.cons (o := ⟨_, _, _, _, _, _⟩) rfl (fun K hK => ?_) AllReadyH.nil
    go_simp
    with_reducible refine (q.out _ hHeld).mono ?_
    rintro e w5 ⟨rfl, b5⟩
    have hx5 := hHeld.trans (b5.mono hHeld.size)
    go_simp
    refine hK.out _ _ (hx5) (fun hHeld => ?_)
    clear hK K
    refine wT 6 (v := ?v10) rfl (by kernel_rfl) (fun _ _ _ h => h) ?h10 (by assumption) ?r10
    case h10 => (intro w hSw; (try dsimp only at hSw); go_simp; try with_reducible rfl)
    refine wT 7 (v := ?v11) rfl (by kernel_rfl) (fun _ _ _ h => h) ?h11 (by assumption) ?r11
    case h11 => (intro w hSw; (try dsimp only at hSw); go_simp; try with_reducible rfl)
    refine wT 8 (v := ?v12) rfl (by kernel_rfl) (fun _ _ _ h => h) ?h12 (by assumption) ?r12
    case h12 => (intro w hSw; (try dsimp only at hSw); go_simp; try with_reducible rfl)
    try simp only [Act.put, List.setIfInBounds_toArray, List.set_cons_zero, List.set_cons_succ]
    refine wpAnyH_ready (rs := [10]) (by kernel_rfl) (by simp) ?_
    refine AllReadyH.cons (o := ⟨_, _, _, _, _, _⟩) rfl (fun K hK => ?_) AllReadyH.nil
    first | (have hzB := Holds.below (g := V.heap.size) hz9.drew b5 hz9.lt; have q0 := hzB.cell 0; have q1 := hzB.cell 1; have r0 := hzB.free 0; have r1 := hzB.free 1; simp at q0 q1; go_simp; have hx10 := bl_set (bl_set hHeld (p := ⟨V.heap.size, 0, none⟩) (Nat.le_refl _) (.int .u64 f')) (p := ⟨V.heap.size, 1, none⟩) (Nat.le_refl _) (.string s'); generalize (w5.setCell ⟨V.heap.size, 0, none⟩ (.int .u64 f')).setCell ⟨V.heap.size, 1, none⟩ (.string s') = w10 at hx10 ⊢; clear q0 q1 r0 r1 hzB hz9) | (go_simp; have hx10 := hx5.alloc hx5.size (.cells #[.int .u64 f', .string s'] 40); generalize w5.alloc (.cells #[.int .u64 f', .string s'] 40) = w10 at hx10 ⊢; clear hzA)
    refine hK.out _ _ (hx10) (fun hHeld => ?_)
    clear hK K
    refine wT 11 (v := ?v13) rfl (by kernel_rfl) (fun _ _ _ h => h) ?h13 (by assumption) ?r13
    case h13 => (intro w hSw; (try dsimp only at hSw); go_simp; try with_reducible rfl)
    try simp only [Act.put, List.setIfInBounds_toArray, List.set_cons_zero, List.set_cons_succ]
    refine wpAnyH_done (by kernel_rfl) ?_ _
    clear h0 h1 h2 hx9
    go_wp2
    go_ret
    exact ⟨rfl, bV'.out.trans (hHeld.mono bV'.out.size)⟩
end Go.Proofs.YtpchncpcckfghaaGreat
namespace Go.Proofs.YtpchncpcckfghaaGreat
open Go.RowKit
set_option linter.unusedVariables false
def txts (l : List ByteArray) : List Value := l.map .string
theorem txts_add (a b : List ByteArray) : txts (a ++ b) = txts a ++ txts b := by simp [txts]
theorem txts_length (l : List ByteArray) : (txts l).length = l.length := by simp [txts]
theorem infoStr : (Tryz.prog.info? 9).map (fun i => (i.zero, i.size, i.bytes)) = some (some (.string ⟨#[]⟩), 1, 16) := by kernel_rfl
def SeesT (B : Nat) (w : World) (a : Option Addr) (l : List ByteArray) : Prop :=
  l = [] ∨ ∃ b off, a = some ⟨b, off, none⟩ ∧ b < B ∧ ∀ i, i < l.length → w.cell? ⟨b, off + i, none⟩ = some (.string (l.getD i ⟨#[]⟩))
theorem SeesT.below {B : Nat} {w w' : World} {a : Option Addr} {l : List ByteArray} (h : SeesT B w a l) (hb : Below B w w') : SeesT B w' a l := by
  rcases h with h | ⟨b, off, rfl, hB, hc⟩
  · exact .inl h
  · exact .inr ⟨b, off, rfl, hB, fun i hi => (hb.cell (p := ⟨b, off + i, none⟩) hB).trans (hc i hi)⟩
theorem SeesT.mono {B B' : Nat} {w : World} {a : Option Addr} {l : List ByteArray} (h : SeesT B w a l) (hb : B ≤ B') : SeesT B' w a l := by
  rcases h with h | ⟨b, off, rfl, hB, hx⟩
  · exact .inl h
  · exact .inr ⟨b, off, rfl, by omega, hx⟩
theorem sees_ownT {w : World} {base : Nat} {e : TypeId} {v : Value} {n : Nat} {l : List ByteArray} (h : w.ownsRow base e 1 v n (txts l)) :
    ∃ a cap, v = .slice a l.length cap ∧ n = l.length ∧ SeesT w.heap.size w a l := by
  have hn : n = l.length := by have := h.1; simp [txts] at this; omega
  rcases h.2 with ⟨rfl, h0⟩ | ⟨g, cap, cur, rfl, _, hg, _⟩
  · subst hn
    exact ⟨none, 0, by rw [h0], rfl, .inl (List.eq_nil_of_length_eq_zero h0)⟩
  · subst hn
    refine ⟨_, cap, rfl, rfl, .inr ⟨g, 0, rfl, (Array.getElem?_eq_some_iff.1 hg).1, fun i hi => ?_⟩⟩
    have := h.cells (g := g) rfl i (.string (l.getD i ⟨#[]⟩)) (by simp [txts, List.getD, hi])
    have h2 : (⟨g, 0, none⟩ : Addr).add i = ⟨g, 0 + i, none⟩ := by unfold Addr.add; split <;> simp_all
    rw [h2] at this
    exact this
theorem run_append_text {P : Program} (w : World) (t ty e : TypeId) (i : TypeInfo) (z : Value) (bytes : Nat) (ht : P.underlying t = some (.slice e)) (hi : P.info? e = some i) (hz : i.zero = some z)
    (hsize : i.size = 1) (hby : i.bytes = bytes) (hzs : z.cells.size = 1)
    (v : Value) (l : List ByteArray) (hown : w.ownsRow 0 e 1 v l.length (txts l)) (ad : Addr) (s : ByteArray) (c : Nat) (hs : w.cell? ad = some (.string s))
    (hn : l.length + 1 ≤ maxLen) (hby2 : (l.length + 1) * bytes ≤ 140737488355328) :
    ∃ v' w', (Builtin.append_ #[t, t] ty #[v, .slice (some ad) 1 c]).run P w = .ok v' w' ∧ w'.ownsRow 0 e 1 v' (l ++ [s]).length (txts (l ++ [s])) ∧ w.grownBy w' v.ownBlock ∧ (v'.ownBlock = v.ownBlock ∨ v'.ownBlock = some w.heap.size) := by
  obtain ⟨v', w', hrun, h2, h3, _, h5⟩ := run_append_own_at (P := P) w 0 t ty e i z 1 bytes ht hi hz hsize hby hzs (by omega) v l.length (txts l) hown ad 1 c [.string s] (by simp) (fun j u hj => by
    have : j = 0 := by have := (List.getElem?_eq_some_iff.1 hj).1; simp at this; omega
    subst this
    simp at hj
    subst hj
    have h2 : ad.add 0 = ad := by simp [Addr.add]
    rw [h2]; exact hs) (fun u hu => by simp at hu; subst hu; rfl) hn hby2 (Nat.zero_le _)
  refine ⟨v', w', hrun, ?_, h3, h5⟩
  rw [List.length_append, txts_add]; exact h2
theorem wpList_append_text {P : Program} (w : World) {ops : Array Oper} {rest : List Oper} {o : Oper} {a : Act} {Q : Exit → Act → World → Prop}
    (hg : o.guard = none) (s x : Operand) (t : TypeId) (hop : o.op = Op.call { callee := Callee.builtin Builtin.append, args := #[s, x], argTypes := #[t, t] })
    (e : TypeId) (i : TypeInfo) (z : Value) (bytes : Nat) (ht : P.underlying t = some (.slice e)) (hi : P.info? e = some i) (hz : i.zero = some z)
    (hsize : i.size = 1) (hby : i.bytes = bytes) (hzs : z.cells.size = 1)
    (v : Value) (l : List ByteArray) (hown : w.ownsRow 0 e 1 v l.length (txts l)) (ad : Addr) (tx : ByteArray) (c : Nat) (hs : w.cell? ad = some (.string tx))
    (hsv : a.eval s = v) (hx : a.eval x = .slice (some ad) 1 c) (hn : l.length + 1 ≤ maxLen) (hby2 : (l.length + 1) * bytes ≤ 140737488355328)
    (hK : ∀ v' w', w'.ownsRow 0 e 1 v' (l ++ [tx]).length (txts (l ++ [tx])) → w.grownBy w' v.ownBlock → (v'.ownBlock = v.ownBlock ∨ v'.ownBlock = some w.heap.size) → wpList P ops Q rest (a.put o.dst v') w') :
    wpList P ops Q (o :: rest) a w := by
  obtain ⟨v', w', hrun, h1, h2, h3⟩ := run_append_text (P := P) w t o.type e i z bytes ht hi hz hsize hby hzs v l hown ad tx c hs hn hby2
  refine wpList_plain hg fun K hK' => ?_
  unfold Oper.wp
  simp [execOp, hop, resolve, invoke, builtin, hsv, hx, hrun, Result.andThen]
  exact hK' _ _ (hK v' w' h1 h2 h3)
theorem own_set {w : World} {base : Nat} {e : TypeId} {n m c : Nat} {g : Nat} {xs : List Value} (h : w.ownsRow base e 1 (.slice (some ⟨g, 0, none⟩) m c) n xs) (i : Nat) (hi : i < n) (u : Value) :
    (w.setCell ⟨g, i, none⟩ u).ownsRow base e 1 (.slice (some ⟨g, 0, none⟩) m c) n (xs.set i u) := by
  refine ⟨by rw [List.length_set]; exact h.1, ?_⟩
  rcases h.2 with ⟨h1, _⟩ | ⟨g', cap, cur, hv, hg, hh, h1, h2, h3, h4⟩
  · cases h1
  · injection hv with ha hm hc
    injection ha with ha
    injection ha with hgg
    subst hgg hm hc
    refine .inr ⟨g, _, cur.setIfInBounds i u, rfl, hg, ?_, h1, h2, by simpa using h3, ?_⟩
    · simp [World.setCell, Array.getElem?_modify, hh]
    · rw [Array.toList_setIfInBounds, List.take_set, h4]
theorem own_free {w : World} {base : Nat} {e : TypeId} {n m c : Nat} {g : Nat} {xs : List Value} (h : w.ownsRow base e 1 (.slice (some ⟨g, 0, none⟩) m c) n xs) (i : Nat) : w.frozen? ⟨g, i, none⟩ = false := by
  rcases h.2 with ⟨h1, _⟩ | ⟨g', cap, cur, hv, hg, hh, _⟩
  · cases h1
  · injection hv with ha hm hc
    injection ha with ha
    injection ha with hgg
    subst hgg
    simp [World.frozen?, hh]
theorem set_last {xs : List Value} (h : xs ≠ []) (u : Value) : xs.set (xs.length - 1) u = xs.dropLast ++ [u] := by
  obtain ⟨ys, y, rfl⟩ : ∃ ys y, xs = ys ++ [y] := ⟨xs.dropLast, xs.getLast h, (List.dropLast_concat_getLast h).symm⟩
  simp
end Go.Proofs.YtpchncpcckfghaaGreat
namespace Go.Proofs.YtpchncpcckfghaaGreat
open Go.RowKit Go.ChangeShapes Go.WideShapes Go.Deep
set_option linter.unusedVariables false
set_option linter.unusedSimpArgs false
abbrev e0 : ByteArray := ⟨#[]⟩
structure TT (w : World) (a : Option Addr) (n c : Nat) (l : List ByteArray) : Prop where
  len : n = l.length
  cap : n ≤ c
  max : c ≤ maxLen
  sees : SeesT w.heap.size w a l
theorem TT.below {w w' : World} {a : Option Addr} {n c : Nat} {l : List ByteArray} (h : TT w a n c l) (hb : Below w.heap.size w w') : TT w' a n c l := ⟨h.len, h.cap, h.max, (h.sees.below hb).mono hb.size⟩
theorem TT.drewN {w : World} {a : Option Addr} {n c : Nat} {l : List ByteArray} (h : TT w a n c l) (m : Nat) : TT (w.drewN m) a n c l := ⟨h.len, h.cap, h.max, h.sees⟩
theorem TT.at_ {w : World} {a : Option Addr} {n c : Nat} {l : List ByteArray} (h : TT w a n c l) {k : Nat} (hk : k < l.length) : ∃ b off, a = some ⟨b, off, none⟩ ∧ b < w.heap.size ∧ ∀ i, i < l.length → w.cell? ⟨b, off + i, none⟩ = some (.string (l.getD i e0)) := by
  rcases h.sees with e | ⟨b, off, rfl, hb, hc⟩
  · subst e; simp at hk
  · exact ⟨b, off, rfl, hb, hc⟩
def DrawnB (v : Value) (w : World) (e : Ending) (w' : World) : Prop := e = .returned v ∧ ∃ m, w' = w.drewN m
end Go.Proofs.YtpchncpcckfghaaGreat
namespace Go.Proofs.YtpchncpcckfghaaGreat
open Go.RowKit
set_option linter.unusedVariables false
set_option linter.unusedSimpArgs false
theorem altl_iff (s t : ByteArray) : s.toList = t.toList ↔ s = t := by
  rw [ByteArray.toList_eq, ByteArray.toList_eq]
  exact ⟨fun h => ByteArray.ext (Array.toList_inj.1 h), fun h => by rw [h]⟩
theorem al_all (a b : AlD) : a = b ↔ a.kind = b.kind ∧ a.sev = b.sev ∧ a.fn = b.fn ∧ a.file = b.file ∧ a.line = b.line ∧ a.expr = b.expr := by
  cases a; cases b; simp
theorem al_cmp (a b : AlD) {α : Type} (f : Bool → α) (q : Bool) (h : q = true ↔ a = b) : (if a.kind = b.kind then (if a.sev = b.sev then (if a.fn.toList = b.fn.toList then (if a.file.toList = b.file.toList then (if a.line = b.line then (if a.expr.toList = b.expr.toList then f true else f false) else f false) else f false) else f false) else f false) else f false) = f q := by
  rw [al_all] at h
  simp only [altl_iff]
  cases q
  · have h' : ¬ (a.kind = b.kind ∧ a.sev = b.sev ∧ a.fn = b.fn ∧ a.file = b.file ∧ a.line = b.line ∧ a.expr = b.expr) := fun x => by have := h.2 x; cases this
    repeat' split
    all_goals first | rfl | (exfalso; apply h'; exact ⟨by assumption, by assumption, by assumption, by assumption, by assumption, by assumption⟩)
  · obtain ⟨h1, h2, h3, h4, h5, h6⟩ := h.1 rfl
    rw [if_pos h1, if_pos h2, if_pos h3, if_pos h4, if_pos h5, if_pos h6]
theorem al_cmp' (a b : AlD) {α : Type} (f : Bool → α) (q : Bool) (h : q = true ↔ ¬ a = b) : (if a.kind = b.kind then (if a.sev = b.sev then (if a.fn.toList = b.fn.toList then (if a.file.toList = b.file.toList then (if a.line = b.line then (if a.expr.toList = b.expr.toList then f false else f true) else f true) else f true) else f true) else f true) else f true) = f q := by
  have q2 := al_cmp a b (fun x => f (!x)) (!q) (by cases q <;> simp at h ⊢ <;> exact h)
  simpa using q2
def sameA (l r : List AlD) : Bool := decide (l.length = r.length) && (List.range l.length).all fun i => decide (cmpA (l.getD i al0) (r.getD i al0) = 0)
theorem sameA_iff (l r : List AlD) : sameA l r = true ↔ l = r := by
  unfold sameA
  rw [Bool.and_eq_true, decide_eq_true_eq, List.all_eq_true]
  constructor
  · rintro ⟨h1, h2⟩
    apply List.ext_getElem h1
    intro i a b
    have q := h2 i (List.mem_range.2 a)
    rw [decide_eq_true_eq] at q
    have q2 := (cmA.zero _ _).1 q
    simpa [List.getD, a, b] using q2
  · rintro rfl
    exact ⟨rfl, fun i _ => by rw [decide_eq_true_eq]; exact (cmA.zero _ _).2 rfl⟩
theorem sameA_no {l r : List AlD} {k : Nat} (hk : k < l.length) (h : ¬ l.getD k al0 = r.getD k al0) : sameA l r = false := by
  cases hs : sameA l r
  · rfl
  · rw [sameA_iff] at hs
    subst hs
    exact absurd rfl h
theorem sameA_len {l r : List AlD} (h : l.length ≠ r.length) : sameA l r = false := by
  cases hs : sameA l r
  · rfl
  · rw [sameA_iff] at hs
    subst hs
    exact absurd rfl h
theorem sameA_yes {l r : List AlD} (hl : l.length = r.length) (h : ∀ t, t < l.length → l.getD t al0 = r.getD t al0) : sameA l r = true := by
  rw [sameA_iff]
  apply List.ext_getElem hl
  intro i a b
  have q := h i a
  simpa [List.getD, a, b] using q
set_option maxRecDepth 100000 in
set_option maxHeartbeats 8000000 in
theorem ralSame_any (a1 a2 : Option Addr) (n1 n2 c1 c2 : Nat) (l1 l2 : List AlD) (w : World) (h1 : RO alC w a1 n1 c1 l1) (h2 : RO alC w a2 n2 c2 l2) : Calls Tryz.prog 26 #[.slice a1 n1 c1, .slice a2 n2 c2] w (DrawnB (.bool (sameA l1 l2)) w) := by
  have hl1 := Lib.hid h1.len
  have hl2 := Lib.hid h2.len
  have T1 := Lib.hid h1
  have T2 := Lib.hid h2
  have hm1 := h1.max'
  have hm2 := h2.max'
  have hm1i : (n1 : Int) ≤ 9223372036854775807 := by omega
  clear h1 h2
  by_cases hne : n1 = n2
  · have e0' : ((n1 : Int) != (n2 : Int)) = false := by simp; omega
    have e0n : (n1 != n2) = false := by simpa using hne
    have hne' := Lib.hid hne
    have hno := Lib.hid (fun k hk h => sameA_no (l := l1) (r := l2) (k := k) hk h)
    have hyes := Lib.hid (fun h => sameA_yes (l := l1) (r := l2) (by rw [← hl1.out, ← hl2.out]; exact hne) h)
    clear hne
    generalize sameA l1 l2 = R at *
    go_enter Tryz.func26, Tryz.ntmps26
    go_wp2
    go_loopw [5] (fun x wr => ∃ k m : Nat, k ≤ n1 ∧ x = .int .i64 k ∧ Hid (∀ t, t < k → l1.getD t al0 = l2.getD t al0) ∧ wr = w.drewN m) (fun x _ => n1 - (intOf x).toNat)
    case atStart => exact ⟨0, 0, by omega, rfl, Lib.hid (fun t ht => by omega), rfl⟩
    case round =>
      obtain ⟨k, m, hk, rfl, hal, rfl⟩ := hrel
      by_cases hlt : k < n1
      · have hki : (k : Int) < (n1 : Int) := by omega
        have hk2 : k < n2 := by have := hne'.out; omega
        have hki2 : (k : Int) < (n2 : Int) := by omega
        obtain ⟨b1, o1, rfl, -, x0, x1, x2, x3, x4, x5⟩ := al_at T1.out hlt
        obtain ⟨b2, o2, rfl, -, y0, y1, y2, y3, y4, y5⟩ := al_at T2.out hk2
        have hno' := Lib.hid (hno.out k (by rw [← hl1.out]; exact hlt))
        have hyes' : Hid (l1.getD k al0 = l2.getD k al0 → ∀ t, t < k + 1 → l1.getD t al0 = l2.getD t al0) := Lib.hid (fun h t ht => by
          by_cases e : t = k
          · rw [e]; exact h
          · exact hal.out t (by omega))
        obtain ⟨⟨ak, asv, af, afi, al, ax⟩, hs1⟩ : ∃ u, l1.getD k al0 = (u : AlD) := ⟨_, rfl⟩
        obtain ⟨⟨bk, bsv, bf, bfi, bl, bx⟩, hs2⟩ : ∃ u, l2.getD k al0 = (u : AlD) := ⟨_, rfl⟩
        rw [hs1] at x0 x1 x2 x3 x4 x5 hno' hyes'
        rw [hs2] at y0 y1 y2 y3 y4 y5 hno' hyes'
        dsimp only at x0 x1 x2 x3 x4 x5 y0 y1 y2 y3 y4 y5
        clear hs1 hs2 hal hno
        have g0 : ∀ W, (∃ j, W = w.drewN j) → W.cell? ⟨b1, o1 + k * 6, none⟩ = some (.int .i64 ak) := fun W hW => by obtain ⟨j, rfl⟩ := hW; exact x0
        have g1 : ∀ W, (∃ j, W = w.drewN j) → W.cell? ⟨b1, o1 + k * 6 + 1, none⟩ = some (.int .i64 asv) := fun W hW => by obtain ⟨j, rfl⟩ := hW; exact x1
        have g2 : ∀ W, (∃ j, W = w.drewN j) → W.cell? ⟨b1, o1 + k * 6 + 2, none⟩ = some (.string af) := fun W hW => by obtain ⟨j, rfl⟩ := hW; exact x2
        have g3 : ∀ W, (∃ j, W = w.drewN j) → W.cell? ⟨b1, o1 + k * 6 + 3, none⟩ = some (.string afi) := fun W hW => by obtain ⟨j, rfl⟩ := hW; exact x3
        have g4 : ∀ W, (∃ j, W = w.drewN j) → W.cell? ⟨b1, o1 + k * 6 + 4, none⟩ = some (.int .i64 al) := fun W hW => by obtain ⟨j, rfl⟩ := hW; exact x4
        have g5 : ∀ W, (∃ j, W = w.drewN j) → W.cell? ⟨b1, o1 + k * 6 + 5, none⟩ = some (.string ax) := fun W hW => by obtain ⟨j, rfl⟩ := hW; exact x5
        have e0 : ∀ W, (∃ j, W = w.drewN j) → W.cell? ⟨b2, o2 + k * 6, none⟩ = some (.int .i64 bk) := fun W hW => by obtain ⟨j, rfl⟩ := hW; exact y0
        have e1 : ∀ W, (∃ j, W = w.drewN j) → W.cell? ⟨b2, o2 + k * 6 + 1, none⟩ = some (.int .i64 bsv) := fun W hW => by obtain ⟨j, rfl⟩ := hW; exact y1
        have e2 : ∀ W, (∃ j, W = w.drewN j) → W.cell? ⟨b2, o2 + k * 6 + 2, none⟩ = some (.string bf) := fun W hW => by obtain ⟨j, rfl⟩ := hW; exact y2
        have e3 : ∀ W, (∃ j, W = w.drewN j) → W.cell? ⟨b2, o2 + k * 6 + 3, none⟩ = some (.string bfi) := fun W hW => by obtain ⟨j, rfl⟩ := hW; exact y3
        have e4 : ∀ W, (∃ j, W = w.drewN j) → W.cell? ⟨b2, o2 + k * 6 + 4, none⟩ = some (.int .i64 bl) := fun W hW => by obtain ⟨j, rfl⟩ := hW; exact y4
        have e5 : ∀ W, (∃ j, W = w.drewN j) → W.cell? ⟨b2, o2 + k * 6 + 5, none⟩ = some (.string bx) := fun W hW => by obtain ⟨j, rfl⟩ := hW; exact y5
        clear x0 x1 x2 x3 x4 x5 y0 y1 y2 y3 y4 y5
        by_cases hq : (⟨ak, asv, af, afi, al, ax⟩ : AlD) = ⟨bk, bsv, bf, bfi, bl, bx⟩
        · have hg := Lib.hid (hyes'.out hq)
          have haq : Hid (false = true ↔ ¬ (⟨ak, asv, af, afi, al, ax⟩ : AlD) = ⟨bk, bsv, bf, bfi, bl, bx⟩) := Lib.hid (by simp only [hq, not_true_eq_false, Bool.false_eq_true])
          clear hyes' hno' hq
          go_wp2
          refine wp_drawn_on (fun W => ∃ j, W = w.drewN j) (by kernel_rfl) (⟨m + 1, rfl⟩) (fun hHeld => ?_)
          refine wT 0 (v := ?v1) rfl (by kernel_rfl) (fun _ _ _ h => h) ?h1 (by assumption) ?r1
          case h1 => (intro w hSw; (try dsimp only at hSw); go_simp; try with_reducible rfl)
          refine wT 1 (v := ?v2) rfl (by kernel_rfl) (fun _ _ _ h => h) ?h2 (by assumption) ?r2
          case h2 => (intro w hSw; (try dsimp only at hSw); go_simp; try with_reducible rfl)
          refine wT 2 (v := ?v3) rfl (by kernel_rfl) (fun _ _ _ h => h) ?h3 (by assumption) ?r3
          case h3 => (intro w hSw; (try dsimp only at hSw); go_simp; try with_reducible rfl)
          refine wT 3 (v := ?v4) rfl (by kernel_rfl) (fun _ _ _ h => h) ?h4 (by assumption) ?r4
          case h4 => (intro w hSw; (try dsimp only at hSw); go_simp; try with_reducible rfl)
          refine wT 4 (v := ?v5) rfl (by kernel_rfl) (fun _ _ _ h => h) ?h5 (by assumption) ?r5
          case h5 => (intro w hSw; (try dsimp only at hSw); go_simp; try with_reducible rfl)
          refine wT 5 (v := ?v6) rfl (by kernel_rfl) (fun _ _ _ h => h) ?h6 (by assumption) ?r6
          case h6 => (intro w hSw; (try dsimp only at hSw); go_simp; try with_reducible rfl)
          refine wT 6 (v := ?v7) rfl (by kernel_rfl) (fun _ _ _ h => h) ?h7 (by assumption) ?r7
          case h7 => (intro w hSw; (try dsimp only at hSw); go_simp; try with_reducible rfl)
          refine wT 7 (v := ?v8) rfl (by kernel_rfl) (fun _ _ _ h => h) ?h8 (by assumption) ?r8
          case h8 => (intro w hSw; (try dsimp only at hSw); go_simp; try with_reducible rfl)
          refine wT 8 (v := ?v9) rfl (by kernel_rfl) (fun _ _ _ h => h) ?h9 (by assumption) ?r9
          case h9 => (intro w hSw; (try dsimp only at hSw); refine Eq.trans (b := Result.ok (Next.value (.bool false)) w) (by go_simp; exact al_cmp' ⟨ak, asv, af, afi, al, ax⟩ ⟨bk, bsv, bf, bfi, bl, bx⟩ (fun b => Result.ok (Next.value (Value.bool b)) w) false haq.out) ?_; with_reducible rfl)
          try simp only [Act.put, List.setIfInBounds_toArray, List.set_cons_zero, List.set_cons_succ]
          refine wpAnyH_done (by kernel_rfl) ?_ _
          clear g0 e0 g1 e1 g2 e2 g3 e3 g4 e4 g5 e5
          go_wp2
          go_roundw
          case rel => exact ⟨k + 1, m + 1, by omega, by go_num, hg, rfl⟩
          case measure => simp [intOf]; omega
        · have hf := Lib.hid (hno'.out hq)
          obtain ⟨bq, hb⟩ : ∃ bq : Bool, Hid (bq = true) := ⟨true, Lib.hid rfl⟩
          have haq : Hid (bq = true ↔ ¬ (⟨ak, asv, af, afi, al, ax⟩ : AlD) = ⟨bk, bsv, bf, bfi, bl, bx⟩) := Lib.hid ⟨fun _ => hq, fun _ => hb.out⟩
          clear hyes' hno' hq
          go_wp2
          refine wp_drawn_on (fun W => ∃ j, W = w.drewN j) (by kernel_rfl) (⟨m + 1, rfl⟩) (fun hHeld => ?_)
          refine wT 0 (v := ?v10) rfl (by kernel_rfl) (fun _ _ _ h => h) ?h10 (by assumption) ?r10
          case h10 => (intro w hSw; (try dsimp only at hSw); go_simp; try with_reducible rfl)
          refine wT 1 (v := ?v11) rfl (by kernel_rfl) (fun _ _ _ h => h) ?h11 (by assumption) ?r11
          case h11 => (intro w hSw; (try dsimp only at hSw); go_simp; try with_reducible rfl)
          refine wT 2 (v := ?v12) rfl (by kernel_rfl) (fun _ _ _ h => h) ?h12 (by assumption) ?r12
          case h12 => (intro w hSw; (try dsimp only at hSw); go_simp; try with_reducible rfl)
          refine wT 3 (v := ?v13) rfl (by kernel_rfl) (fun _ _ _ h => h) ?h13 (by assumption) ?r13
          case h13 => (intro w hSw; (try dsimp only at hSw); go_simp; try with_reducible rfl)
          refine wT 4 (v := ?v14) rfl (by kernel_rfl) (fun _ _ _ h => h) ?h14 (by assumption) ?r14
          case h14 => (intro w hSw; (try dsimp only at hSw); go_simp; try with_reducible rfl)
          refine wT 5 (v := ?v15) rfl (by kernel_rfl) (fun _ _ _ h => h) ?h15 (by assumption) ?r15
          case h15 => (intro w hSw; (try dsimp only at hSw); go_simp; try with_reducible rfl)
          refine wT 6 (v := ?v16) rfl (by kernel_rfl) (fun _ _ _ h => h) ?h16 (by assumption) ?r16
          case h16 => (intro w hSw; (try dsimp only at hSw); go_simp; try with_reducible rfl)
          refine wT 7 (v := ?v17) rfl (by kernel_rfl) (fun _ _ _ h => h) ?h17 (by assumption) ?r17
          case h17 => (intro w hSw; (try dsimp only at hSw); go_simp; try with_reducible rfl)
          refine wT 8 (v := ?v18) rfl (by kernel_rfl) (fun _ _ _ h => h) ?h18 (by assumption) ?r18
          case h18 => (intro w hSw; (try dsimp only at hSw); refine Eq.trans (b := Result.ok (Next.value (.bool bq)) w) (by go_simp; exact al_cmp' ⟨ak, asv, af, afi, al, ax⟩ ⟨bk, bsv, bf, bfi, bl, bx⟩ (fun b => Result.ok (Next.value (Value.bool b)) w) bq haq.out) ?_; with_reducible rfl)
          try simp only [Act.put, List.setIfInBounds_toArray, List.set_cons_zero, List.set_cons_succ]
          refine wpAnyH_done (by kernel_rfl) ?_ _
          clear g0 e0 g1 e1 g2 e2 g3 e3 g4 e4 g5 e5
          have hb2 : bq = true := hb.out
          subst hb2
          go_wp2
          go_ret
          exact ⟨ret_bool hf.out.symm, m + 1, rfl⟩
      · have hki : ¬ (k : Int) < (n1 : Int) := by omega
        have hf := Lib.hid (hyes.out (fun t ht => hal.out t (by rw [← hl1.out] at ht; omega)))
        clear hyes hno hal
        go_wp2
        go_ret
        exact ⟨ret_bool hf.out.symm, m, rfl⟩
  · have e0' : ((n1 : Int) != (n2 : Int)) = true := by simp; omega
    have e0n : (n1 != n2) = true := by simpa using hne
    have hR : Hid (sameA l1 l2 = false) := Lib.hid (sameA_len (by rw [← hl1.out, ← hl2.out]; exact hne))
    clear hne
    generalize sameA l1 l2 = R at *
    go_enter Tryz.func26, Tryz.ntmps26
    go_wp2
    go_ret
    exact ⟨ret_bool hR.out.symm, 0, rfl⟩
end Go.Proofs.YtpchncpcckfghaaGreat
namespace Go.Proofs.YtpchncpcckfghaaGreat
open Go.RowKit
set_option linter.unusedVariables false
set_option linter.unusedSimpArgs false
structure SpV where
  k : Option Addr
  kn : Nat
  kc : Nat
  f : Option Addr
  fn : Nat
  fc : Nat
  m : Option Addr
  mn : Nat
  mc : Nat
  s : Option Addr
  sn : Nat
  sc : Nat
structure SpD where
  k : List AlD
  f : List AlD
  m : List MkD
  s : List MkD
def SpV.cells (v : SpV) : Array Value := #[.slice v.k v.kn v.kc, .slice v.f v.fn v.fc, .slice v.m v.mn v.mc, .slice v.s v.sn v.sc]
structure SpR (w : World) (v : SpV) (d : SpD) : Prop where
  k : RO alC w v.k v.kn v.kc d.k
  f : RO alC w v.f v.fn v.fc d.f
  m : RO mkC w v.m v.mn v.mc d.m
  s : RO mkC w v.s v.sn v.sc d.s
theorem SpR.below {w w' : World} {v : SpV} {d : SpD} (h : SpR w v d) (hb : Below w.heap.size w w') : SpR w' v d := ⟨h.k.below hb, h.f.below hb, h.m.below hb, h.s.below hb⟩
end Go.Proofs.YtpchncpcckfghaaGreat
namespace Go.Proofs.YtpchncpcckfghaaGreat
open Go.Sort
set_option linter.unusedVariables false
set_option linter.unusedSimpArgs false
theorem Cm.on {α β : Type} {c : α → α → Int} {E : α → α → Prop} (h : Cm c E) (g : β → α) : Cm (fun a b => c (g a) (g b)) (fun a b => E (g a) (g b)) :=
  ⟨fun a b => h.range _ _, fun a b => h.zero _ _, fun a b => h.anti _ _, fun a b d => h.trans _ _ _⟩
theorem Cm.swo {α : Type} {c : α → α → Int} (h : Cm c (fun a b => a = b)) : SWO (ltOf c) where
  irrefl x := by
    unfold ltOf
    rw [(h.zero x x).2 rfl]
    rfl
  trans x y z h1 h2 := by
    unfold ltOf at *
    have q := h.trans x y z
    have q2 := h.trans z x y
    have a1 := h.anti x y
    have a2 := h.anti y z
    have a3 := h.anti x z
    simp at h1 h2 ⊢
    omega
  ntrans x y z h1 h2 := by
    unfold ltOf at *
    have q := h.trans z y x
    have a1 := h.anti x y
    have a2 := h.anti y z
    have a3 := h.anti x z
    simp at h1 h2 ⊢
    omega
theorem Cm.tot {α : Type} {c : α → α → Int} (h : Cm c (fun a b => a = b)) (x y : α) (h1 : ltOf c x y = false) (h2 : ltOf c y x = false) : x = y := by
  unfold ltOf at *
  have a1 := h.anti x y
  simp at h1 h2
  exact (h.zero x y).1 (by omega)
def cfF (l : List AlD) (d : AlD) (n : Nat) (i j : Fin n) : Int := thenC (cmpA (l.getD i.val d) (l.getD j.val d)) (cmpZ (i.val : Int) (j.val : Int))
theorem cmF (l : List AlD) (d : AlD) (n : Nat) : Cm (cfF l d n) (fun a b => a = b) := by
  have h := (cmA.on (fun i : Fin n => l.getD i.val d)).lex (cmZ (fun i : Fin n => (i.val : Int)))
  refine ⟨h.range, fun a b => (h.zero a b).trans ⟨fun ⟨_, h2⟩ => Fin.ext (by omega), fun e => by subst e; exact ⟨rfl, rfl⟩⟩, h.anti, h.trans⟩
theorem cf_ahead (l : List AlD) (d : AlD) (n : Nat) (i j : Fin n) : ltOf (cfF l d n) i j = aheadB cmpA l d i.val j.val := by
  unfold ltOf cfF aheadB thenC cmpZ
  by_cases h0 : cmpA (l.getD i.val d) (l.getD j.val d) = 0
  · rw [if_pos h0, h0]
    by_cases h1 : i.val < j.val
    · simp [h1]
    · simp [h1]
      split <;> omega
  · rw [if_neg h0, decide_eq_false h0]
    simp
def placesF (l : List AlD) (d : AlD) (n : Nat) : List Nat := ((List.finRange n).mergeSort fun x y => !(ltOf (cfF l d n)) y x).map fun i => i.val
theorem places_perm (l : List AlD) (d : AlD) (n : Nat) : (placesF l d n).Perm (List.range n) := by
  have h := (List.mergeSort_perm (List.finRange n) (fun x y => !(ltOf (cfF l d n)) y x)).map (fun i : Fin n => i.val)
  have e : (List.finRange n).map (fun i : Fin n => i.val) = List.range n := by
    apply List.ext_getElem
    · simp
    · intro i a b
      simp
  rw [e] at h
  exact h
theorem places_len (l : List AlD) (d : AlD) (n : Nat) : (placesF l d n).length = n := by have := (places_perm l d n).length_eq; simpa using this
theorem places_pair (l : List AlD) (d : AlD) (n : Nat) : (placesF l d n).Pairwise fun a b => aheadB cmpA l d a b = true := by
  have hO := (cmF l d n).swo
  have h := List.pairwise_mergeSort (le := fun x y => !(ltOf (cfF l d n)) y x) (fun a b e h1 h2 => by
    simp only [Bool.not_eq_true'] at *
    exact hO.ntrans e b a h2 h1) (fun a b => by
    simp only [Bool.or_eq_true, Bool.not_eq_true']
    cases h : ltOf (cfF l d n) b a
    · exact .inl rfl
    · right
      cases h2 : ltOf (cfF l d n) a b
      · rfl
      · have := hO.trans a b a h2 h
        rw [hO.irrefl] at this
        cases this) (List.finRange n)
  have hnd : ((List.finRange n).mergeSort (fun x y => !(ltOf (cfF l d n)) y x)).Nodup := (List.mergeSort_perm _ _).nodup_iff.2 (List.nodup_finRange n)
  unfold placesF
  rw [List.pairwise_map]
  refine (h.and hnd).imp fun {a b} ⟨x, y⟩ => ?_
  rw [← cf_ahead l d n]
  cases h2 : ltOf (cfF l d n) a b
  · exact absurd ((cmF l d n).tot a b h2 (by simpa using x)) y
  · rfl
theorem places_rank {K : Type} [DecidableEq K] (key : AlD → K) (l : List AlD) (d : AlD) {t : Nat} (ht : t < l.length) :
    rankL cmpA key l d ((placesF l d l.length).getD t 0) = ((placesF l d l.length).take t).countP fun j => decide (key (l.getD j d) = key (l.getD ((placesF l d l.length).getD t 0) d)) := by
  have hlen := places_len l d l.length
  refine rank_row cmA key (places_perm l d l.length) (places_pair l d l.length) (q := (placesF l d l.length).drop (t + 1)) ?_
  have e : (placesF l d l.length).getD t 0 = (placesF l d l.length)[t]'(by omega) := by simp [List.getD, hlen, ht]
  rw [e, ← List.drop_eq_getElem_cons (by omega), List.take_append_drop]
theorem places_lt (l : List AlD) (d : AlD) (n : Nat) {t : Nat} (ht : t < n) : (placesF l d n).getD t 0 < n := by
  have hlen := places_len l d n
  have h : (placesF l d n).getD t 0 ∈ placesF l d n := by simp [List.getD, hlen, ht]
  have := (places_perm l d n).mem_iff.1 h
  simpa using this
theorem places_at (l : List AlD) (d : AlD) (n : Nat) {i : Nat} (hi : i < n) : ∃ t, t < n ∧ (placesF l d n).getD t 0 = i := by
  have hlen := places_len l d n
  have h : i ∈ placesF l d n := (places_perm l d n).mem_iff.2 (by simpa using hi)
  obtain ⟨t, ht, e⟩ := List.getElem_of_mem h
  exact ⟨t, by omega, by simp [List.getD, ht, e]⟩
end Go.Proofs.YtpchncpcckfghaaGreat
namespace Go.Proofs.YtpchncpcckfghaaGreat
open Go.RowKit
set_option linter.unusedVariables false
set_option linter.unusedSimpArgs false
def letB (c : Int) : Bool := decide ((97 ≤ c ∧ c ≤ 122) ∨ (65 ≤ c ∧ c ≤ 90) ∨ c = 95)
def wdB (c : Int) : Bool := letB c || decide ((48 ≤ c ∧ c ≤ 57) ∨ c = 46)
set_option maxHeartbeats 1000000 in
theorem wordByte_any (c : Int) (h0 : 0 ≤ c) (h1 : c ≤ 255) (w : World) :
    Calls Tryz.prog 115 #[.int .u8 c] w fun e w' => e = .returned (.bool (wdB c)) ∧ w = w' := by
  by_cases r0 : c ≤ 45
  · have hv : wdB c = false := by simp [wdB, letB]; omega
    rw [hv]
    have a0 : ¬ 97 ≤ c := by omega
    have a1 : c ≤ 122 := by omega
    have a2 : ¬ 65 ≤ c := by omega
    have a3 : c ≤ 90 := by omega
    have a4 : (c == 95) = false := by simp; omega
    have b4 : ¬ c = 95 := by omega
    have a5 : ¬ 48 ≤ c := by omega
    have a6 : c ≤ 57 := by omega
    have a7 : (c == 46) = false := by simp; omega
    have b7 : ¬ c = 46 := by omega
    clear hv
    go_enter Tryz.func115, Tryz.ntmps115
    go_wp2
    go_ret
    first | exact ⟨rfl, rfl⟩ | exact ⟨by simp; omega, rfl⟩
  by_cases r46 : c ≤ 46
  · have hv : wdB c = true := by simp [wdB, letB]; omega
    rw [hv]
    obtain rfl : c = 46 := by omega
    clear hv
    go_enter Tryz.func115, Tryz.ntmps115
    go_wp2
    go_ret
    first | exact ⟨rfl, rfl⟩ | exact ⟨by simp; omega, rfl⟩
  by_cases r47 : c ≤ 47
  · have hv : wdB c = false := by simp [wdB, letB]; omega
    rw [hv]
    obtain rfl : c = 47 := by omega
    clear hv
    go_enter Tryz.func115, Tryz.ntmps115
    go_wp2
    go_ret
    first | exact ⟨rfl, rfl⟩ | exact ⟨by simp; omega, rfl⟩
  by_cases r48 : c ≤ 57
  · have hv : wdB c = true := by simp [wdB, letB]; omega
    rw [hv]
    have a0 : ¬ 97 ≤ c := by omega
    have a1 : c ≤ 122 := by omega
    have a2 : ¬ 65 ≤ c := by omega
    have a3 : c ≤ 90 := by omega
    have a4 : (c == 95) = false := by simp; omega
    have b4 : ¬ c = 95 := by omega
    have a5 : 48 ≤ c := by omega
    have a6 : c ≤ 57 := by omega
    have a7 : (c == 46) = false := by simp; omega
    have b7 : ¬ c = 46 := by omega
    clear hv
    go_enter Tryz.func115, Tryz.ntmps115
    go_wp2
    go_ret
    first | exact ⟨rfl, rfl⟩ | exact ⟨by simp; omega, rfl⟩
  by_cases r58 : c ≤ 64
  · have hv : wdB c = false := by simp [wdB, letB]; omega
    rw [hv]
    have a0 : ¬ 97 ≤ c := by omega
    have a1 : c ≤ 122 := by omega
    have a2 : ¬ 65 ≤ c := by omega
    have a3 : c ≤ 90 := by omega
    have a4 : (c == 95) = false := by simp; omega
    have b4 : ¬ c = 95 := by omega
    have a5 : 48 ≤ c := by omega
    have a6 : ¬ c ≤ 57 := by omega
    have a7 : (c == 46) = false := by simp; omega
    have b7 : ¬ c = 46 := by omega
    clear hv
    go_enter Tryz.func115, Tryz.ntmps115
    go_wp2
    go_ret
    first | exact ⟨rfl, rfl⟩ | exact ⟨by simp; omega, rfl⟩
  by_cases r65 : c ≤ 90
  · have hv : wdB c = true := by simp [wdB, letB]; omega
    rw [hv]
    have a0 : ¬ 97 ≤ c := by omega
    have a1 : c ≤ 122 := by omega
    have a2 : 65 ≤ c := by omega
    have a3 : c ≤ 90 := by omega
    have a4 : (c == 95) = false := by simp; omega
    have b4 : ¬ c = 95 := by omega
    have a5 : 48 ≤ c := by omega
    have a6 : ¬ c ≤ 57 := by omega
    have a7 : (c == 46) = false := by simp; omega
    have b7 : ¬ c = 46 := by omega
    clear hv
    go_enter Tryz.func115, Tryz.ntmps115
    go_wp2
    go_ret
    first | exact ⟨rfl, rfl⟩ | exact ⟨by simp; omega, rfl⟩
  by_cases r91 : c ≤ 94
  · have hv : wdB c = false := by simp [wdB, letB]; omega
    rw [hv]
    have a0 : ¬ 97 ≤ c := by omega
    have a1 : c ≤ 122 := by omega
    have a2 : 65 ≤ c := by omega
    have a3 : ¬ c ≤ 90 := by omega
    have a4 : (c == 95) = false := by simp; omega
    have b4 : ¬ c = 95 := by omega
    have a5 : 48 ≤ c := by omega
    have a6 : ¬ c ≤ 57 := by omega
    have a7 : (c == 46) = false := by simp; omega
    have b7 : ¬ c = 46 := by omega
    clear hv
    go_enter Tryz.func115, Tryz.ntmps115
    go_wp2
    go_ret
    first | exact ⟨rfl, rfl⟩ | exact ⟨by simp; omega, rfl⟩
  by_cases r95 : c ≤ 95
  · have hv : wdB c = true := by simp [wdB, letB]; omega
    rw [hv]
    obtain rfl : c = 95 := by omega
    clear hv
    go_enter Tryz.func115, Tryz.ntmps115
    go_wp2
    go_ret
    first | exact ⟨rfl, rfl⟩ | exact ⟨by simp; omega, rfl⟩
  by_cases r96 : c ≤ 96
  · have hv : wdB c = false := by simp [wdB, letB]; omega
    rw [hv]
    obtain rfl : c = 96 := by omega
    clear hv
    go_enter Tryz.func115, Tryz.ntmps115
    go_wp2
    go_ret
    first | exact ⟨rfl, rfl⟩ | exact ⟨by simp; omega, rfl⟩
  by_cases r97 : c ≤ 122
  · have hv : wdB c = true := by simp [wdB, letB]; omega
    rw [hv]
    have a0 : 97 ≤ c := by omega
    have a1 : c ≤ 122 := by omega
    have a2 : 65 ≤ c := by omega
    have a3 : ¬ c ≤ 90 := by omega
    have a4 : (c == 95) = false := by simp; omega
    have b4 : ¬ c = 95 := by omega
    have a5 : 48 ≤ c := by omega
    have a6 : ¬ c ≤ 57 := by omega
    have a7 : (c == 46) = false := by simp; omega
    have b7 : ¬ c = 46 := by omega
    clear hv
    go_enter Tryz.func115, Tryz.ntmps115
    go_wp2
    go_ret
    first | exact ⟨rfl, rfl⟩ | exact ⟨by simp; omega, rfl⟩
  have hv : wdB c = false := by simp [wdB, letB]; omega
  rw [hv]
  have a0 : 97 ≤ c := by omega
  have a1 : ¬ c ≤ 122 := by omega
  have a2 : 65 ≤ c := by omega
  have a3 : ¬ c ≤ 90 := by omega
  have a4 : (c == 95) = false := by simp; omega
  have b4 : ¬ c = 95 := by omega
  have a5 : 48 ≤ c := by omega
  have a6 : ¬ c ≤ 57 := by omega
  have a7 : (c == 46) = false := by simp; omega
  have b7 : ¬ c = 46 := by omega
  clear hv
  go_enter Tryz.func115, Tryz.ntmps115
  go_wp2
  go_ret
  first | exact ⟨rfl, rfl⟩ | exact ⟨by simp; omega, rfl⟩
set_option maxHeartbeats 1000000 in
theorem letter_any (c : Int) (h0 : 0 ≤ c) (h1 : c ≤ 255) (w : World) :
    Calls Tryz.prog 148 #[.int .u8 c] w fun e w' => e = .returned (.bool (letB c)) ∧ w = w' := by
  by_cases r0 : c ≤ 45
  · have hv : letB c = false := by simp [letB]; omega
    rw [hv]
    have a0 : ¬ 97 ≤ c := by omega
    have a1 : c ≤ 122 := by omega
    have a2 : ¬ 65 ≤ c := by omega
    have a3 : c ≤ 90 := by omega
    have a4 : (c == 95) = false := by simp; omega
    have b4 : ¬ c = 95 := by omega
    clear hv
    go_enter Tryz.func148, Tryz.ntmps148
    go_wp2
    go_ret
    first | exact ⟨rfl, rfl⟩ | exact ⟨by simp; omega, rfl⟩
  by_cases r46 : c ≤ 46
  · have hv : letB c = false := by simp [letB]; omega
    rw [hv]
    obtain rfl : c = 46 := by omega
    clear hv
    go_enter Tryz.func148, Tryz.ntmps148
    go_wp2
    go_ret
    first | exact ⟨rfl, rfl⟩ | exact ⟨by simp; omega, rfl⟩
  by_cases r47 : c ≤ 47
  · have hv : letB c = false := by simp [letB]; omega
    rw [hv]
    obtain rfl : c = 47 := by omega
    clear hv
    go_enter Tryz.func148, Tryz.ntmps148
    go_wp2
    go_ret
    first | exact ⟨rfl, rfl⟩ | exact ⟨by simp; omega, rfl⟩
  by_cases r48 : c ≤ 57
  · have hv : letB c = false := by simp [letB]; omega
    rw [hv]
    have a0 : ¬ 97 ≤ c := by omega
    have a1 : c ≤ 122 := by omega
    have a2 : ¬ 65 ≤ c := by omega
    have a3 : c ≤ 90 := by omega
    have a4 : (c == 95) = false := by simp; omega
    have b4 : ¬ c = 95 := by omega
    clear hv
    go_enter Tryz.func148, Tryz.ntmps148
    go_wp2
    go_ret
    first | exact ⟨rfl, rfl⟩ | exact ⟨by simp; omega, rfl⟩
  by_cases r58 : c ≤ 64
  · have hv : letB c = false := by simp [letB]; omega
    rw [hv]
    have a0 : ¬ 97 ≤ c := by omega
    have a1 : c ≤ 122 := by omega
    have a2 : ¬ 65 ≤ c := by omega
    have a3 : c ≤ 90 := by omega
    have a4 : (c == 95) = false := by simp; omega
    have b4 : ¬ c = 95 := by omega
    clear hv
    go_enter Tryz.func148, Tryz.ntmps148
    go_wp2
    go_ret
    first | exact ⟨rfl, rfl⟩ | exact ⟨by simp; omega, rfl⟩
  by_cases r65 : c ≤ 90
  · have hv : letB c = true := by simp [letB]; omega
    rw [hv]
    have a0 : ¬ 97 ≤ c := by omega
    have a1 : c ≤ 122 := by omega
    have a2 : 65 ≤ c := by omega
    have a3 : c ≤ 90 := by omega
    have a4 : (c == 95) = false := by simp; omega
    have b4 : ¬ c = 95 := by omega
    clear hv
    go_enter Tryz.func148, Tryz.ntmps148
    go_wp2
    go_ret
    first | exact ⟨rfl, rfl⟩ | exact ⟨by simp; omega, rfl⟩
  by_cases r91 : c ≤ 94
  · have hv : letB c = false := by simp [letB]; omega
    rw [hv]
    have a0 : ¬ 97 ≤ c := by omega
    have a1 : c ≤ 122 := by omega
    have a2 : 65 ≤ c := by omega
    have a3 : ¬ c ≤ 90 := by omega
    have a4 : (c == 95) = false := by simp; omega
    have b4 : ¬ c = 95 := by omega
    clear hv
    go_enter Tryz.func148, Tryz.ntmps148
    go_wp2
    go_ret
    first | exact ⟨rfl, rfl⟩ | exact ⟨by simp; omega, rfl⟩
  by_cases r95 : c ≤ 95
  · have hv : letB c = true := by simp [letB]; omega
    rw [hv]
    obtain rfl : c = 95 := by omega
    clear hv
    go_enter Tryz.func148, Tryz.ntmps148
    go_wp2
    go_ret
    first | exact ⟨rfl, rfl⟩ | exact ⟨by simp; omega, rfl⟩
  by_cases r96 : c ≤ 96
  · have hv : letB c = false := by simp [letB]; omega
    rw [hv]
    obtain rfl : c = 96 := by omega
    clear hv
    go_enter Tryz.func148, Tryz.ntmps148
    go_wp2
    go_ret
    first | exact ⟨rfl, rfl⟩ | exact ⟨by simp; omega, rfl⟩
  by_cases r97 : c ≤ 122
  · have hv : letB c = true := by simp [letB]; omega
    rw [hv]
    have a0 : 97 ≤ c := by omega
    have a1 : c ≤ 122 := by omega
    have a2 : 65 ≤ c := by omega
    have a3 : ¬ c ≤ 90 := by omega
    have a4 : (c == 95) = false := by simp; omega
    have b4 : ¬ c = 95 := by omega
    clear hv
    go_enter Tryz.func148, Tryz.ntmps148
    go_wp2
    go_ret
    first | exact ⟨rfl, rfl⟩ | exact ⟨by simp; omega, rfl⟩
  have hv : letB c = false := by simp [letB]; omega
  rw [hv]
  have a0 : 97 ≤ c := by omega
  have a1 : ¬ c ≤ 122 := by omega
  have a2 : 65 ≤ c := by omega
  have a3 : ¬ c ≤ 90 := by omega
  have a4 : (c == 95) = false := by simp; omega
  have b4 : ¬ c = 95 := by omega
  clear hv
  go_enter Tryz.func148, Tryz.ntmps148
  go_wp2
  go_ret
  first | exact ⟨rfl, rfl⟩ | exact ⟨by simp; omega, rfl⟩
set_option maxHeartbeats 1000000 in
theorem nmore_any (c : Int) (h0 : 0 ≤ c) (h1 : c ≤ 255) (w : World) :
    Calls Tryz.prog 147 #[.int .u8 c] w fun e w' => e = .returned (.bool (wdB c)) ∧ w = w' := by
  by_cases r0 : c ≤ 45
  · have hv : wdB c = false := by simp [wdB, letB]; omega
    rw [hv]
    have hl : letB c = false := by simp [letB]; omega
    have hc := letter_any c h0 h1 w
    rw [hl] at hc
    have hc' := Lib.hid hc
    clear hc hl
    have a0 : ¬ 48 ≤ c := by omega
    have a1 : c ≤ 57 := by omega
    have a2 : (c == 46) = false := by simp; omega
    have b2 : ¬ c = 46 := by omega
    clear hv
    go_enter Tryz.func147, Tryz.ntmps147
    go_wp2_with fail
    refine hc'.out.mono ?_
    rintro e w' ⟨rfl, rfl⟩
    go_wp2
    go_ret
    first | exact ⟨rfl, rfl⟩ | exact ⟨by simp; omega, rfl⟩
  by_cases r46 : c ≤ 46
  · have hv : wdB c = true := by simp [wdB, letB]; omega
    rw [hv]
    have hl : letB c = false := by simp [letB]; omega
    have hc := letter_any c h0 h1 w
    rw [hl] at hc
    have hc' := Lib.hid hc
    clear hc hl
    obtain rfl : c = 46 := by omega
    clear hv
    go_enter Tryz.func147, Tryz.ntmps147
    go_wp2_with fail
    refine hc'.out.mono ?_
    rintro e w' ⟨rfl, rfl⟩
    go_wp2
    go_ret
    first | exact ⟨rfl, rfl⟩ | exact ⟨by simp; omega, rfl⟩
  by_cases r47 : c ≤ 47
  · have hv : wdB c = false := by simp [wdB, letB]; omega
    rw [hv]
    have hl : letB c = false := by simp [letB]; omega
    have hc := letter_any c h0 h1 w
    rw [hl] at hc
    have hc' := Lib.hid hc
    clear hc hl
    obtain rfl : c = 47 := by omega
    clear hv
    go_enter Tryz.func147, Tryz.ntmps147
    go_wp2_with fail
    refine hc'.out.mono ?_
    rintro e w' ⟨rfl, rfl⟩
    go_wp2
    go_ret
    first | exact ⟨rfl, rfl⟩ | exact ⟨by simp; omega, rfl⟩
  by_cases r48 : c ≤ 57
  · have hv : wdB c = true := by simp [wdB, letB]; omega
    rw [hv]
    have hl : letB c = false := by simp [letB]; omega
    have hc := letter_any c h0 h1 w
    rw [hl] at hc
    have hc' := Lib.hid hc
    clear hc hl
    have a0 : 48 ≤ c := by omega
    have a1 : c ≤ 57 := by omega
    have a2 : (c == 46) = false := by simp; omega
    have b2 : ¬ c = 46 := by omega
    clear hv
    go_enter Tryz.func147, Tryz.ntmps147
    go_wp2_with fail
    refine hc'.out.mono ?_
    rintro e w' ⟨rfl, rfl⟩
    go_wp2
    go_ret
    first | exact ⟨rfl, rfl⟩ | exact ⟨by simp; omega, rfl⟩
  by_cases r58 : c ≤ 64
  · have hv : wdB c = false := by simp [wdB, letB]; omega
    rw [hv]
    have hl : letB c = false := by simp [letB]; omega
    have hc := letter_any c h0 h1 w
    rw [hl] at hc
    have hc' := Lib.hid hc
    clear hc hl
    have a0 : 48 ≤ c := by omega
    have a1 : ¬ c ≤ 57 := by omega
    have a2 : (c == 46) = false := by simp; omega
    have b2 : ¬ c = 46 := by omega
    clear hv
    go_enter Tryz.func147, Tryz.ntmps147
    go_wp2_with fail
    refine hc'.out.mono ?_
    rintro e w' ⟨rfl, rfl⟩
    go_wp2
    go_ret
    first | exact ⟨rfl, rfl⟩ | exact ⟨by simp; omega, rfl⟩
  by_cases r65 : c ≤ 90
  · have hv : wdB c = true := by simp [wdB, letB]; omega
    rw [hv]
    have hl : letB c = true := by simp [letB]; omega
    have hc := letter_any c h0 h1 w
    rw [hl] at hc
    have hc' := Lib.hid hc
    clear hc hl
    have a0 : 48 ≤ c := by omega
    have a1 : ¬ c ≤ 57 := by omega
    have a2 : (c == 46) = false := by simp; omega
    have b2 : ¬ c = 46 := by omega
    clear hv
    go_enter Tryz.func147, Tryz.ntmps147
    go_wp2_with fail
    refine hc'.out.mono ?_
    rintro e w' ⟨rfl, rfl⟩
    go_wp2
    go_ret
    first | exact ⟨rfl, rfl⟩ | exact ⟨by simp; omega, rfl⟩
  by_cases r91 : c ≤ 94
  · have hv : wdB c = false := by simp [wdB, letB]; omega
    rw [hv]
    have hl : letB c = false := by simp [letB]; omega
    have hc := letter_any c h0 h1 w
    rw [hl] at hc
    have hc' := Lib.hid hc
    clear hc hl
    have a0 : 48 ≤ c := by omega
    have a1 : ¬ c ≤ 57 := by omega
    have a2 : (c == 46) = false := by simp; omega
    have b2 : ¬ c = 46 := by omega
    clear hv
    go_enter Tryz.func147, Tryz.ntmps147
    go_wp2_with fail
    refine hc'.out.mono ?_
    rintro e w' ⟨rfl, rfl⟩
    go_wp2
    go_ret
    first | exact ⟨rfl, rfl⟩ | exact ⟨by simp; omega, rfl⟩
  by_cases r95 : c ≤ 95
  · have hv : wdB c = true := by simp [wdB, letB]; omega
    rw [hv]
    have hl : letB c = true := by simp [letB]; omega
    have hc := letter_any c h0 h1 w
    rw [hl] at hc
    have hc' := Lib.hid hc
    clear hc hl
    obtain rfl : c = 95 := by omega
    clear hv
    go_enter Tryz.func147, Tryz.ntmps147
    go_wp2_with fail
    refine hc'.out.mono ?_
    rintro e w' ⟨rfl, rfl⟩
    go_wp2
    go_ret
    first | exact ⟨rfl, rfl⟩ | exact ⟨by simp; omega, rfl⟩
  by_cases r96 : c ≤ 96
  · have hv : wdB c = false := by simp [wdB, letB]; omega
    rw [hv]
    have hl : letB c = false := by simp [letB]; omega
    have hc := letter_any c h0 h1 w
    rw [hl] at hc
    have hc' := Lib.hid hc
    clear hc hl
    obtain rfl : c = 96 := by omega
    clear hv
    go_enter Tryz.func147, Tryz.ntmps147
    go_wp2_with fail
    refine hc'.out.mono ?_
    rintro e w' ⟨rfl, rfl⟩
    go_wp2
    go_ret
    first | exact ⟨rfl, rfl⟩ | exact ⟨by simp; omega, rfl⟩
  by_cases r97 : c ≤ 122
  · have hv : wdB c = true := by simp [wdB, letB]; omega
    rw [hv]
    have hl : letB c = true := by simp [letB]; omega
    have hc := letter_any c h0 h1 w
    rw [hl] at hc
    have hc' := Lib.hid hc
    clear hc hl
    have a0 : 48 ≤ c := by omega
    have a1 : ¬ c ≤ 57 := by omega
    have a2 : (c == 46) = false := by simp; omega
    have b2 : ¬ c = 46 := by omega
    clear hv
    go_enter Tryz.func147, Tryz.ntmps147
    go_wp2_with fail
    refine hc'.out.mono ?_
    rintro e w' ⟨rfl, rfl⟩
    go_wp2
    go_ret
    first | exact ⟨rfl, rfl⟩ | exact ⟨by simp; omega, rfl⟩
  have hv : wdB c = false := by simp [wdB, letB]; omega
  rw [hv]
  have hl : letB c = false := by simp [letB]; omega
  have hc := letter_any c h0 h1 w
  rw [hl] at hc
  have hc' := Lib.hid hc
  clear hc hl
  have a0 : 48 ≤ c := by omega
  have a1 : ¬ c ≤ 57 := by omega
  have a2 : (c == 46) = false := by simp; omega
  have b2 : ¬ c = 46 := by omega
  clear hv
  go_enter Tryz.func147, Tryz.ntmps147
  go_wp2_with fail
  refine hc'.out.mono ?_
  rintro e w' ⟨rfl, rfl⟩
  go_wp2
  go_ret
  first | exact ⟨rfl, rfl⟩ | exact ⟨by simp; omega, rfl⟩
end Go.Proofs.YtpchncpcckfghaaGreat
namespace Go.Proofs.YtpchncpcckfghaaGreat
open Go.RowKit
set_option linter.unusedVariables false
set_option linter.unusedSimpArgs false
def partsL : List Int → List (List Int)
  | [] => []
  | c :: r => if wdB c = true then (c :: r.takeWhile wdB) :: partsL (r.dropWhile wdB) else if c = 32 then partsL r else [c] :: partsL r
termination_by l => l.length
decreasing_by
  all_goals simp_wf
  · have : (r.dropWhile wdB).length ≤ r.length := (List.dropWhile_sublist _).length_le
    omega
theorem partsL_nil : partsL [] = [] := by rw [partsL]
theorem partsL_word {c : Int} {r : List Int} (h : wdB c = true) : partsL (c :: r) = (c :: r.takeWhile wdB) :: partsL (r.dropWhile wdB) := by rw [partsL, if_pos h]
theorem partsL_blank {r : List Int} : partsL (32 :: r) = partsL r := by rw [partsL, if_neg (by decide), if_pos rfl]
theorem partsL_other {c : Int} {r : List Int} (h : wdB c = false) (h2 : c ≠ 32) : partsL (c :: r) = [c] :: partsL r := by rw [partsL, if_neg (by simp [h]), if_neg h2]
theorem take_run {p q : List Int} (hp : ∀ c ∈ p, wdB c = true) (hq : q = [] ∨ ∃ c r, q = c :: r ∧ wdB c = false) : (p ++ q).takeWhile wdB = p ∧ (p ++ q).dropWhile wdB = q := by
  induction p with
  | nil =>
    rcases hq with rfl | ⟨c, r, rfl, hc⟩
    · exact ⟨rfl, rfl⟩
    · simp [List.takeWhile_cons, List.dropWhile_cons, hc]
  | cons a p ih =>
    have ha := hp a (by simp)
    obtain ⟨h1, h2⟩ := ih (fun c hc => hp c (by simp [hc]))
    simp [List.takeWhile_cons, List.dropWhile_cons, ha, h1, h2]
theorem partsL_run {p q : List Int} (h0 : p ≠ []) (hp : ∀ c ∈ p, wdB c = true) (hq : q = [] ∨ ∃ c r, q = c :: r ∧ wdB c = false) : partsL (p ++ q) = p :: partsL q := by
  cases p with
  | nil => exact absurd rfl h0
  | cons a p =>
    have ha := hp a (by simp)
    obtain ⟨h1, h2⟩ := take_run (p := p) (q := q) (fun c hc => hp c (by simp [hc])) hq
    rw [List.cons_append, partsL_word ha, h1, h2]
def more1 (out : List (List Int)) (last c : Int) : List (List Int) :=
  if c = 32 then out else if wdB c = true ∧ wdB last = true then out.dropLast ++ [(out.getLast?.getD []) ++ [c]] else out ++ [[c]]
theorem partsL_ne : ∀ {p : List Int}, (∃ x ∈ p, x ≠ 32) → partsL p ≠ [] := by
  intro p
  induction p with
  | nil => rintro ⟨x, hx, -⟩; simp at hx
  | cons a p ih =>
    rintro ⟨x, hx, h⟩
    by_cases ha : wdB a = true
    · rw [partsL_word ha]; simp
    · by_cases h2 : a = 32
      · subst h2
        rw [partsL_blank]
        rcases List.mem_cons.1 hx with rfl | hx
        · exact absurd rfl h
        · exact ih ⟨x, hx, h⟩
      · rw [partsL_other (by simpa using ha) h2]; simp
theorem last_ne {p : List Int} (h : wdB (p.getLast?.getD 32) = true) : partsL p ≠ [] := by
  cases hp : p.getLast? with
  | none => rw [hp] at h; exact absurd h (by decide)
  | some x =>
    rw [hp] at h
    refine partsL_ne ⟨x, List.mem_of_getLast? hp, fun e => ?_⟩
    subst e
    exact absurd h (by decide)
theorem more1_cons (u : List Int) {X : List (List Int)} {last c : Int} (h : wdB last = true → X ≠ []) : u :: more1 X last c = more1 (u :: X) last c := by
  unfold more1
  by_cases h1 : c = 32
  · rw [if_pos h1, if_pos h1]
  · rw [if_neg h1, if_neg h1]
    by_cases h2 : wdB c = true ∧ wdB last = true
    · rw [if_pos h2, if_pos h2]
      have hX := h h2.2
      cases X with
      | nil => exact absurd rfl hX
      | cons v X => simp [List.dropLast_cons_of_ne_nil, List.getLast?_cons_cons]
    · rw [if_neg h2, if_neg h2]; rfl
theorem partsL_snoc (c : Int) : ∀ (n : Nat) (p : List Int), p.length ≤ n → partsL (p ++ [c]) = more1 (partsL p) (p.getLast?.getD 32) c := by
  intro n
  induction n with
  | zero =>
    intro p hp
    have : p = [] := List.eq_nil_of_length_eq_zero (by omega)
    subst this
    simp only [List.nil_append, partsL_nil, List.getLast?_nil, Option.getD_none]
    unfold more1
    by_cases h1 : c = 32
    · subst h1; rw [partsL_blank, partsL_nil, if_pos rfl]
    · have h32 : wdB 32 = false := by decide
      rw [if_neg h1, if_neg (by simp [h32])]
      by_cases h2 : wdB c = true
      · rw [partsL_word h2]; simp [partsL_nil]
      · rw [partsL_other (by simpa using h2) h1, partsL_nil]; rfl
  | succ n ih =>
    intro p hp
    cases p with
    | nil => exact ih [] (by simp)
    | cons a p =>
      have hne : ∀ (x : Int) (l : List Int), ((x :: l).getLast?.getD 32) = if l = [] then x else l.getLast?.getD 32 := by
        intro x l
        cases l with
        | nil => simp
        | cons y l => simp [List.getLast?_cons_cons]
      by_cases ha : wdB a = true
      · -- a word's run
        have hsplit : ∃ r q, p = r ++ q ∧ (∀ x ∈ r, wdB x = true) ∧ (q = [] ∨ ∃ y z, q = y :: z ∧ wdB y = false) := by
          refine ⟨p.takeWhile wdB, p.dropWhile wdB, (List.takeWhile_append_dropWhile).symm, fun x hx => List.all_eq_true.1 (List.all_takeWhile) x hx, ?_⟩
          cases hq : p.dropWhile wdB with
          | nil => exact .inl rfl
          | cons y z =>
            right
            refine ⟨y, z, rfl, ?_⟩
            have := List.head_dropWhile_not (p := wdB) (l := p) (by rw [hq]; simp)
            simpa [hq] using this
        obtain ⟨r, q, rfl, hr, hq⟩ := hsplit
        have hrun : ∀ x ∈ a :: r, wdB x = true := by
          intro x hx
          rcases List.mem_cons.1 hx with rfl | h
          · exact ha
          · exact hr x h
        have e0 : partsL (a :: (r ++ q)) = (a :: r) :: partsL q := by
          rw [← List.cons_append]; exact partsL_run (by simp) hrun hq
        rcases hq with rfl | ⟨y, z, rfl, hy⟩
        · -- the run goes to the end
          have hlast : wdB ((a :: r).getLast?.getD 32) = true := by
            have : (a :: r).getLast?.getD 32 ∈ a :: r := by
              rw [List.getLast?_eq_some_getLast (by simp)]; exact List.getLast_mem _
            exact hrun _ this
          simp only [List.append_nil] at e0 ⊢
          rw [e0, partsL_nil]
          unfold more1
          by_cases h1 : c = 32
          · subst h1
            rw [if_pos rfl, partsL_run (p := a :: r) (q := [32]) (by simp) hrun (.inr ⟨32, [], rfl, by decide⟩), partsL_blank, partsL_nil]
          · rw [if_neg h1]
            by_cases h2 : wdB c = true
            · rw [if_pos ⟨h2, hlast⟩]
              have := partsL_run (p := (a :: r) ++ [c]) (q := []) (by simp) (fun x hx => by
                rcases List.mem_append.1 hx with h | h
                · exact hrun x h
                · simp at h; subst h; exact h2) (.inl rfl)
              rw [List.append_nil] at this
              rw [this, partsL_nil]; simp
            · have h2' : wdB c = false := by simpa using h2
              rw [if_neg (by simp [h2']), partsL_run (p := a :: r) (q := [c]) (by simp) hrun (.inr ⟨c, [], rfl, h2'⟩), partsL_other h2' h1, partsL_nil]; rfl
        · -- something stands behind the run
          have e1 := ih (y :: z) (by simp at hp ⊢; omega)
          have e2 : partsL (a :: (r ++ y :: z) ++ [c]) = (a :: r) :: partsL (y :: z ++ [c]) := by
            rw [show a :: (r ++ y :: z) ++ [c] = (a :: r) ++ (y :: (z ++ [c])) by simp]
            exact partsL_run (by simp) hrun (.inr ⟨y, z ++ [c], rfl, hy⟩)
          have e3 : (a :: (r ++ y :: z)).getLast?.getD 32 = (y :: z).getLast?.getD 32 := by
            rw [show a :: (r ++ y :: z) = (a :: r) ++ (y :: z) by simp, List.getLast?_append]
            simp [List.getLast?_cons]
          rw [e2, e1, e0, e3]
          exact more1_cons _ fun h => last_ne h
      · have ha' : wdB a = false := by simpa using ha
        have e1 := ih p (by simp at hp; omega)
        by_cases h2 : a = 32
        · subst h2
          rw [List.cons_append, partsL_blank, partsL_blank, e1]
          cases p with
          | nil => simp
          | cons b p => simp [List.getLast?_cons_cons]
        · rw [List.cons_append, partsL_other ha' h2, partsL_other ha' h2, e1]
          cases p with
          | nil =>
            unfold more1
            have h32 : wdB 32 = false := by decide
            simp [partsL_nil, h32, ha']
            split <;> rfl
          | cons b p =>
            rw [List.getLast?_cons_cons]
            exact more1_cons _ fun h => last_ne h
end Go.Proofs.YtpchncpcckfghaaGreat
namespace Go.Proofs.YtpchncpcckfghaaGreat
open Go.RowKit
set_option linter.unusedVariables false
set_option linter.unusedSimpArgs false
theorem ix (s : ByteArray) (k : Nat) (hk : k < s.size) (W : World) : (Instr.index 9 (.string s) (.int .i64 (k : Int))).run Tryz.prog W = .ok (.int .u8 ((codes s).getD k 0)) W := by
  rw [run_index_string W 9 s .i64 (k : Int) Tryz.underlying9, dif_pos ⟨by omega, by omega⟩, codes_at s k hk]
  simp
theorem name2 (X : ByteArray) (c : Int) (h0 : 0 ≤ c) (h1 : c ≤ 255) (hX : codes X = [120, c]) (w : World) :
    Calls Tryz.prog 144 #[.string X] w fun e w' => e = .returned (.bool (wdB c)) ∧ w = w' := by
  have hs : X.size = 2 := by rw [← codes_length, hX]; rfl
  have i0 : ∀ W, (Instr.index 9 (.string X) (.int .i64 0)).run Tryz.prog W = .ok (.int .u8 120) W := fun W => by
    have := ix X 0 (by omega) W; rw [hX] at this; simpa using this
  have i1 : ∀ W, (Instr.index 9 (.string X) (.int .i64 1)).run Tryz.prog W = .ok (.int .u8 c) W := fun W => by
    have := ix X 1 (by omega) W; rw [hX] at this; simpa using this
  have m0 := Lib.hid (nmore_any 120 (by omega) (by omega))
  rw [show wdB 120 = true by decide] at m0
  have m1 := Lib.hid (nmore_any c h0 h1)
  have l0 := Lib.hid (letter_any 120 (by omega) (by omega))
  rw [show letB 120 = true by decide] at l0
  clear hX h0 h1
  generalize wdB c = wb at *
  go_enter Tryz.func144, Tryz.ntmps144
  go_wp2
  go_loop [3] (fun i => ∃ k : Nat, k ≤ 2 ∧ Hid (k = 2 → wb = true) ∧ i = .int .i64 k) (fun i => 2 - (intOf i).toNat)
  case atStart => exact ⟨0, by omega, Lib.hid (fun h => by omega), rfl⟩
  case round =>
    obtain ⟨k, hk, hw, rfl⟩ := hrel
    have h3 : k = 0 ∨ k = 1 ∨ k = 2 := by omega
    rcases h3 with rfl | rfl | rfl
    · clear hw
      go_wp2_with fail
      refine (m0.out _).mono ?_
      rintro e w' ⟨rfl, rfl⟩
      go_wp2
      go_round
      case rel => exact ⟨1, by omega, Lib.hid (fun h => by omega), by go_num⟩
      case measure => simp [intOf]
    · clear hw
      go_wp2_with fail
      refine (m1.out _).mono ?_
      rintro e w' ⟨rfl, rfl⟩
      cases hwb : wb
      · have hwb' := Lib.hid hwb
        clear hwb
        go_wp2
        go_ret
        exact ⟨by rw [hwb'.out]; rfl, rfl⟩
      · have hwb' := Lib.hid hwb
        clear hwb
        go_wp2
        go_round
        case rel => exact ⟨2, by omega, Lib.hid (fun _ => hwb'.out), by go_num⟩
        case measure => simp [intOf]
    · have hb := hw.out rfl
      subst hb
      clear hw
      go_wp2_with fail
      refine (l0.out _).mono ?_
      rintro e w' ⟨rfl, rfl⟩
      go_wp2
      go_ret
      exact ⟨rfl, rfl⟩
theorem dword_any (c : Int) (h0 : 0 ≤ c) (h1 : c ≤ 255) (w : World) :
    Calls Tryz.prog 138 #[.int .u8 c] w fun e w' => e = .returned (.bool (wdB c)) ∧ Below w.heap.size w w' := by
  have hb : Bs [c] := fun x hx => by simp at hx; omega
  have hX : codes (⟨#[120]⟩ ++ strOfNums [c]) = [120, c] := by
    have : strOfNums [120, c] = (⟨#[120]⟩ : ByteArray) ++ strOfNums [c] := by
      apply ByteArray.ext
      apply Array.toList_inj.1
      simp [ByteArray.data_append, strOfNums_data]
    rw [← this]
    exact codes_str (fun x hx => by simp at hx; omega)
  have hn := Lib.hid (name2 (⟨#[120]⟩ ++ strOfNums [c]) c h0 h1 hX)
  have hsz : (strOfNums [c]).size = 1 := by rw [strOfNums_size]; rfl
  have hsee := sees_new .u8 w 5 [c] #[.int .u8 c] rfl (0, 0)
  have hcv : (convert 82 9 (.slice (some ⟨w.heap.size, 0, none⟩) 1 1)).run Tryz.prog (w.alloc (.cells #[.int .u8 c] 5)) = .ok (.string (strOfNums [c])) (w.alloc (.cells #[.int .u8 c] 5)) := conv_sees _ 9 5 Tryz.underlying82 Tryz.underlying5 Tryz.underlying9 hsee 1 1 rfl
  have hB := Lib.hid ((Below.refl w.heap.size w).alloc (Nat.le_refl _) (.cells #[.int .u8 c] 5))
  clear hX hb hsee h0 h1
  generalize strOfNums [c] = X at *
  generalize wdB c = wb at *
  go_enter Tryz.func138, Tryz.ntmps138
  go_wp2_with fail
  refine (hn.out _).mono ?_
  rintro e w' ⟨rfl, rfl⟩
  go_wp2
  go_ret
  exact ⟨rfl, hB.out⟩
end Go.Proofs.YtpchncpcckfghaaGreat
namespace Go.Proofs.YtpchncpcckfghaaGreat
open Go.RowKit
set_option linter.unusedVariables false
set_option linter.unusedSimpArgs false
theorem cut_codes (s : ByteArray) (i j : Nat) : s.extract i j = strOfNums (((codes s).take j).drop i) := by
  apply ByteArray.ext
  apply Array.toList_inj.1
  rw [ByteArray.data_extract, Array.toList_extract, List.extract_eq_take_drop, strOfNums_data]
  unfold codes
  rw [← List.map_take, ← List.map_drop, List.map_map]
  conv => lhs; rw [← List.map_id ((s.data.toList.drop i).take (j - i))]
  rw [List.drop_take]
  apply List.map_congr_left
  intro b _
  simp
theorem cut_lh (s : ByteArray) (i j : Nat) (h1 : i ≤ j) (h2 : j ≤ s.size) (W : World) : (Instr.slice 9 (.string s) (some (.int .i64 (i : Int))) (some (.int .i64 (j : Int))) none).run Tryz.prog W = .ok (.string (strOfNums (((codes s).take j).drop i))) W := by
  rw [← cut_codes]
  have := run_slice_string W 9 s .i64 .i64 (i : Int) (j : Int) Tryz.underlying9 (by omega) (by omega) (by omega)
  simpa using this
theorem cut_l (s : ByteArray) (i : Nat) (h1 : i ≤ s.size) (W : World) : (Instr.slice 9 (.string s) (some (.int .i64 (i : Int))) none none).run Tryz.prog W = .ok (.string (strOfNums ((codes s).drop i))) W := by
  have := run_slice_string_l W 9 s Tryz.underlying9 .i64 (i : Int) (by omega) (by omega)
  rw [this]
  simp only [Int.toNat_natCast]
  rw [cut_codes, List.take_of_length_le (by rw [codes_length]; exact Nat.le_refl _)]
def TRow (w : World) (B : Nat) (v : Value) (out : List (List Int)) : Prop := w.ownsRow 0 9 1 v (out.map strOfNums).length (txts (out.map strOfNums)) ∧ ∀ k, v.ownBlock = some k → B ≤ k
def GivesT (ls : List (List Int)) (w : World) (e : Ending) (w' : World) : Prop := ∃ v, e = .returned v ∧ TRow w' w.heap.size v ls ∧ Below w.heap.size w w'
end Go.Proofs.YtpchncpcckfghaaGreat
namespace Go.Proofs.YtpchncpcckfghaaGreat
open Go.RowKit
set_option linter.unusedVariables false
set_option linter.unusedSimpArgs false
theorem push {w wr w1 : World} {B : Nat} {v v' : Value} {out : List (List Int)} {x : List Int} (hr : TRow wr B v out) (hb : Below B w wr) (hBw : B ≤ wr.heap.size)
    (own1 : w1.ownsRow 0 9 1 v' (out.map strOfNums ++ [strOfNums x]).length (txts (out.map strOfNums ++ [strOfNums x])))
    (grow1 : (wr.alloc (.cells #[.string (strOfNums x)] 9)).grownBy w1 v.ownBlock) (blk1 : v'.ownBlock = v.ownBlock ∨ v'.ownBlock = some (wr.alloc (.cells #[.string (strOfNums x)] 9)).heap.size) :
    TRow w1 B v' (out ++ [x]) ∧ Below B w w1 := by
  have e : (out ++ [x]).map strOfNums = out.map strOfNums ++ [strOfNums x] := by simp
  refine ⟨⟨by rw [e]; exact own1, fun k hk => ?_⟩, ?_⟩
  · rcases blk1 with h | h
    · exact hr.2 k (by rw [← h]; exact hk)
    · rw [hk] at h
      simp at h
      omega
  · have h1 : Below B w (wr.alloc (.cells #[.string (strOfNums x)] 9)) := hb.alloc hBw _
    exact ((BelowE.of h1 (X := [])).grown grow1 (by simp; omega) (fun k hk hlt => by have := hr.2 k hk; omega)).none
set_option maxRecDepth 100000 in
set_option maxHeartbeats 2000000 in
theorem parts_any (s : ByteArray) (hs : s.size ≤ 100000) (w : World) : Calls Tryz.prog 114 #[.string s] w (GivesT (partsL (codes s)) w) := by
  obtain ⟨i0, hi, hz0, hz1, hz2⟩ := info_parts infoStr
  have hL' := Lib.hid (codes_length s)
  have hbs' := Lib.hid (codes_bs s)
  have hs' := Lib.hid hs
  have hsi : (s.size : Int) ≤ 100000 := by omega
  clear hs
  go_enter Tryz.func114, Tryz.ntmps114
  go_wp2
  go_step3
  go_wp2
  go_step3
  go_wp2
  go_loopg [3, 4] s.size (fun g v i wr => ∃ (k : Nat) (out : List (List Int)), k ≤ s.size ∧ s.size ≤ k + g ∧ i = .int .i64 k ∧ Hid (out.length ≤ k) ∧ Hid (TRow wr w.heap.size v out) ∧ Hid (out ++ partsL ((codes s).drop k) = partsL (codes s)) ∧ Hid (Below w.heap.size w wr))
  case atStart => exact ⟨0, [], by omega, by omega, rfl, Lib.hid (by simp), Lib.hid ⟨⟨rfl, .inl ⟨rfl, rfl⟩⟩, by simp [Value.ownBlock]⟩, Lib.hid (by simp), Lib.hid (Below.refl _ _)⟩
  case round =>
    obtain ⟨k, out, hk, hg, rfl, hok, hrow, hrel2, hB⟩ := hrel
    by_cases hlt : k < s.size
    · obtain ⟨G, rfl⟩ : ∃ G, gk = G + 1 := ⟨gk - 1, by omega⟩
      go_wp2
      go_loopg [3, 4] s.size (fun g2 v i wr2 => ∃ j : Nat, k ≤ j ∧ j < s.size ∧ s.size ≤ j + g2 ∧ v = u3 ∧ i = .int .i64 j ∧ wr2 = wr ∧ Hid (∀ c ∈ ((codes s).take j).drop k, wdB c = true))
      case atStart => exact ⟨k, Nat.le_refl _, hlt, by omega, rfl, rfl, rfl, Lib.hid (by intro c hc; rw [List.drop_of_length_le (by simp; omega)] at hc; simp at hc)⟩
      case round =>
        obtain ⟨j, hkj, hj, hgj, rfl, rfl, rfl, hall⟩ := hrel
        obtain ⟨g2, rfl⟩ : ∃ g2, gk = g2 + 1 := ⟨gk - 1, by omega⟩
        have gi := ix s j hj
        have hc2 := hbs'.out ((codes s).getD j 0) (by
          have : j < (codes s).length := by have := hL'.out; omega
          simp [List.getD, this])
        have hcall := Lib.hid (fun W => wordByte_any ((codes s).getD j 0) (by omega) (by omega) W)
        clear hc2
        have hch := Lib.hid (rfl : (codes s).getD j 0 = (codes s).getD j 0)
        have hjL : Hid (j < (codes s).length) := Lib.hid (by have := hL'.out; omega)
        have hdj : Hid ((codes s).drop j = (codes s).getD j 0 :: (codes s).drop (j + 1)) := Lib.hid (by
          have := hjL.out
          rw [List.drop_eq_getElem_cons this]
          simp [List.getD, this])
        have hall2 : wdB ((codes s).getD j 0) = true → ∀ c ∈ ((codes s).take (j + 1)).drop k, wdB c = true := by
          intro hw c hc
          have hq := hjL.out
          rw [List.take_succ_eq_append_getElem hq, List.drop_append_of_le_length (by simp; omega)] at hc
          rcases List.mem_append.1 hc with h | h
          · exact hall.out c h
          · simp at h
            rw [h]
            simpa [List.getD, hq] using hw
        have hall2' := Lib.hid hall2
        clear hall2 hch
        by_cases hw : wdB ((codes s).getD j 0) = true
        · have ha := Lib.hid (hall2'.out hw)
          rw [hw] at hcall
          clear hall2' hall hdj
          generalize (codes s).getD j 0 = ch at *
          clear hw
          by_cases hend : j + 1 = s.size
          · have hsl := cut_l s k hk
            have hfin : Hid (out ++ [(codes s).drop k] = partsL (codes s)) := Lib.hid (by
              rw [← hrel2.out]
              have h2 := partsL_run (p := (codes s).drop k) (q := []) (by intro e; have := congrArg List.length e; simp at this; have := hL'.out; omega) (by
                have := ha.out
                rw [List.take_of_length_le (by have := hL'.out; omega)] at this
                exact this) (.inl rfl)
              rw [List.append_nil] at h2
              rw [h2, partsL_nil])
            have hei : (j : Int) + 1 = (s.size : Int) := by omega
            clear ha hgj hg
            go_wp2_with fail
            refine (hcall.out _).mono ?_
            rintro e w' ⟨rfl, rfl⟩
            go_wp2_with (at_builtin; refine wpList_append_text _ rfl (.tmp 21) (.tmp 25) 144 rfl 9 i0 (.string ⟨#[]⟩) 16 Tryz.underlying144 hi hz0 hz1 hz2 rfl u3 (out.map strOfNums) ((own_below hrow.out.1 ((Below.refl _ _).alloc (Nat.le_refl _) _))) _ (strOfNums ((codes s).drop k)) 1 (by simp [go_sem]) rfl rfl (by have := hok.out; have := hs'.out; simp [maxLen]; omega) (by have := hok.out; have := hs'.out; simp; omega) ?_; intro v' w1 own1 grow1 blk1; have hpu := Lib.hid (push hrow.out hB.out hB.out.size own1 grow1 blk1); clear own1 grow1 blk1)
            try rw [Exit.noGoto_ret]
            go_ret
            exact ⟨_, rfl, by rw [← hfin.out]; exact hpu.out.1, hpu.out.2⟩
          · have hei : ¬ ((j : Int) + 1 = (s.size : Int)) := by omega
            go_wp2_with fail
            refine (hcall.out _).mono ?_
            rintro e w' ⟨rfl, rfl⟩
            go_wp2
            go_roundg g2
            case rel => exact ⟨j + 1, by omega, by omega, by omega, rfl, by go_num, rfl, ha⟩
            case measure => omega
        · have hw' : wdB ((codes s).getD j 0) = false := by simpa using hw
          rw [hw'] at hcall
          clear hall2' hw
          by_cases hkj2 : k < j
          · have hsl := cut_lh s k j hkj (by omega)
            have hr : Hid ((out ++ [((codes s).take j).drop k]) ++ partsL ((codes s).drop j) = partsL (codes s)) := Lib.hid (by
              rw [← hrel2.out]
              have h1 : (codes s).drop k = ((codes s).take j).drop k ++ (codes s).drop j := by
                conv => lhs; rw [← List.take_append_drop j (codes s)]
                rw [List.drop_append_of_le_length (by simp; have := hL'.out; omega)]
              rw [h1, partsL_run (p := ((codes s).take j).drop k) (q := (codes s).drop j) (by intro e; have := congrArg List.length e; simp at this; have := hL'.out; omega) hall.out (.inr ⟨_, _, hdj.out, hw'⟩)]
              simp)
            have hol : Hid ((out ++ [((codes s).take j).drop k]).length ≤ j) := Lib.hid (by have := hok.out; simp; omega)
            have hgG : s.size ≤ j + G := by omega
            have hci : (k : Int) < (j : Int) := by omega
            clear hdj hw' hall hgj hg
            generalize (codes s).getD j 0 = ch at *
            go_wp2_with fail
            refine (hcall.out _).mono ?_
            rintro e w' ⟨rfl, rfl⟩
            go_wp2_with (at_builtin; refine wpList_append_text _ rfl (.tmp 30) (.tmp 35) 144 rfl 9 i0 (.string ⟨#[]⟩) 16 Tryz.underlying144 hi hz0 hz1 hz2 rfl u3 (out.map strOfNums) ((own_below hrow.out.1 ((Below.refl _ _).alloc (Nat.le_refl _) _))) _ (strOfNums (((codes s).take j).drop k)) 1 (by simp [go_sem]) rfl rfl (by have := hok.out; have := hs'.out; simp [maxLen]; omega) (by have := hok.out; have := hs'.out; simp; omega) ?_; intro v' w1 own1 grow1 blk1; have hpu := Lib.hid (push hrow.out hB.out hB.out.size own1 grow1 blk1); clear own1 grow1 blk1)
            go_roundg G
            case rel => exact ⟨j, _, by omega, hgG, rfl, hol, Lib.hid hpu.out.1, hr, Lib.hid hpu.out.2⟩
            case measure => omega
          · have hjk : j = k := by omega
            subst hjk
            have hgG : s.size ≤ j + 1 + G := by omega
            by_cases h32 : (codes s).getD j 0 = 32
            · have hr : Hid (out ++ partsL ((codes s).drop (j + 1)) = partsL (codes s)) := Lib.hid (by
                rw [← hrel2.out, hdj.out, h32, partsL_blank])
              have hol : Hid (out.length ≤ j + 1) := Lib.hid (by have := hok.out; omega)
              rw [h32] at gi hcall
              clear hdj hw' hall hgj hg h32
              go_wp2_with fail
              refine (hcall.out _).mono ?_
              rintro e w' ⟨rfl, rfl⟩
              go_wp2
              go_roundg G
              case rel => exact ⟨j + 1, out, by omega, hgG, by go_num, hol, hrow, hr, hB⟩
              case measure => omega
            · have hsl := cut_lh s j (j + 1) (by omega) (by omega)
              rw [show ((j + 1 : Nat) : Int) = (j : Int) + 1 by omega] at hsl
              have hone : ((codes s).take (j + 1)).drop j = [(codes s).getD j 0] := by
                have hq := hjL.out
                rw [List.take_succ_eq_append_getElem hq, List.drop_append_of_le_length (by simp; omega), List.drop_of_length_le (by simp; omega)]
                simp [List.getD, hq]
              rw [hone] at hsl
              have hr : Hid ((out ++ [[(codes s).getD j 0]]) ++ partsL ((codes s).drop (j + 1)) = partsL (codes s)) := Lib.hid (by
                rw [← hrel2.out, hdj.out, partsL_other hw' h32]; simp)
              have hol : Hid ((out ++ [[(codes s).getD j 0]]).length ≤ j + 1) := Lib.hid (by have := hok.out; simp; omega)
              have hne : ((codes s).getD j 0 != 32) = true := by simpa using h32
              clear hdj hw' hall hgj hg hone
              generalize (codes s).getD j 0 = ch at *
              go_wp2_with fail
              refine (hcall.out _).mono ?_
              rintro e w' ⟨rfl, rfl⟩
              go_wp2_with (at_builtin; refine wpList_append_text _ rfl (.tmp 41) (.tmp 47) 144 rfl 9 i0 (.string ⟨#[]⟩) 16 Tryz.underlying144 hi hz0 hz1 hz2 rfl u3 (out.map strOfNums) ((own_below hrow.out.1 ((Below.refl _ _).alloc (Nat.le_refl _) _))) _ (strOfNums ([ch])) 1 (by simp [go_sem]) rfl rfl (by have := hok.out; have := hs'.out; simp [maxLen]; omega) (by have := hok.out; have := hs'.out; simp; omega) ?_; intro v' w1 own1 grow1 blk1; have hpu := Lib.hid (push hrow.out hB.out hB.out.size own1 grow1 blk1); clear own1 grow1 blk1)
              go_roundg G
              case rel => exact ⟨j + 1, _, by omega, hgG, by go_num, hol, Lib.hid hpu.out.1, hr, Lib.hid hpu.out.2⟩
              case measure => omega
    · have hres : GivesT (partsL (codes s)) w (.returned u3) wr := by
        have h1 := hrel2.out
        rw [List.drop_of_length_le (by have := hL'.out; omega), partsL_nil, List.append_nil] at h1
        rw [← h1]
        exact ⟨_, rfl, hrow.out, hB.out⟩
      go_wp2
      try rw [Exit.noGoto_ret]
      go_ret
      exact hres
end Go.Proofs.YtpchncpcckfghaaGreat
namespace Go.Proofs.YtpchncpcckfghaaGreat
open Go.RowKit
set_option linter.unusedVariables false
set_option linter.unusedSimpArgs false
theorem parts_bs : ∀ (n : Nat) {L : List Int}, L.length ≤ n → Bs L → ∀ l ∈ partsL L, Bs l := by
  intro n
  induction n with
  | zero => intro L h hb l hl; obtain rfl : L = [] := List.eq_nil_of_length_eq_zero (by omega); rw [partsL_nil] at hl; simp at hl
  | succ n ih =>
    intro L h hb l hl
    cases L with
    | nil => rw [partsL_nil] at hl; simp at hl
    | cons c r =>
      have hc : Bs r := fun x hx => hb x (by simp [hx])
      by_cases hw : wdB c = true
      · rw [partsL_word hw] at hl
        rcases List.mem_cons.1 hl with rfl | hl
        · intro x hx
          rcases List.mem_cons.1 hx with rfl | hx
          · exact hb _ (by simp)
          · exact hc x ((List.takeWhile_sublist _).subset hx)
        · have hle : (r.dropWhile wdB).length ≤ r.length := (List.dropWhile_sublist _).length_le
          exact ih (by simp at h; omega) (fun x hx => hc x ((List.dropWhile_sublist _).subset hx)) l hl
      · have hw' : wdB c = false := by simpa using hw
        by_cases h2 : c = 32
        · subst h2
          rw [partsL_blank] at hl
          exact ih (by simp at h; omega) hc l hl
        · rw [partsL_other hw' h2] at hl
          rcases List.mem_cons.1 hl with rfl | hl
          · intro x hx; simp at hx; subst hx; exact hb _ (by simp)
          · exact ih (by simp at h; omega) hc l hl
end Go.Proofs.YtpchncpcckfghaaGreat
namespace Go.Proofs.YtpchncpcckfghaaGreat
open Go.RowKit
set_option linter.unusedVariables false
set_option linter.unusedSimpArgs false
def hw (p : List Int) : Bool := wdB (p.headD 0)
def normL : Bool → List (List Int) → List Int
  | _, [] => []
  | last, p :: r => (if last && hw p then [32] else []) ++ (p ++ normL (hw p) r)
def normS (L : List Int) : List Int := normL false (partsL L)
def Good (p : List Int) : Prop := (p ≠ [] ∧ ∀ c ∈ p, wdB c = true) ∨ ∃ c, p = [c] ∧ wdB c = false ∧ c ≠ 32
theorem run_split (a : Int) (p : List Int) (ha : wdB a = true) : ∃ r q, p = r ++ q ∧ (∀ x ∈ a :: r, wdB x = true) ∧ (q = [] ∨ ∃ y z, q = y :: z ∧ wdB y = false) := by
  refine ⟨p.takeWhile wdB, p.dropWhile wdB, (List.takeWhile_append_dropWhile).symm, ?_, ?_⟩
  · intro x hx
    rcases List.mem_cons.1 hx with rfl | h
    · exact ha
    · exact List.all_eq_true.1 (List.all_takeWhile) x h
  · cases hq : p.dropWhile wdB with
    | nil => exact .inl rfl
    | cons y z =>
      right
      refine ⟨y, z, rfl, ?_⟩
      have := List.head_dropWhile_not (p := wdB) (l := p) (by rw [hq]; simp)
      simpa [hq] using this
theorem parts_run {a : Int} {r q : List Int} (hr : ∀ x ∈ a :: r, wdB x = true) (hq : q = [] ∨ ∃ y z, q = y :: z ∧ wdB y = false) : partsL (a :: (r ++ q)) = (a :: r) :: partsL q := by
  rw [← List.cons_append]; exact partsL_run (by simp) hr hq
theorem parts_good : ∀ (n : Nat) {L : List Int}, L.length ≤ n → ∀ p ∈ partsL L, Good p := by
  intro n
  induction n with
  | zero => intro L h p hp; obtain rfl : L = [] := List.eq_nil_of_length_eq_zero (by omega); rw [partsL_nil] at hp; simp at hp
  | succ n ih =>
    intro L h p hp
    cases L with
    | nil => rw [partsL_nil] at hp; simp at hp
    | cons c L =>
      by_cases hc : wdB c = true
      · obtain ⟨r, q, rfl, hr, hq⟩ := run_split c L hc
        rw [parts_run hr hq] at hp
        rcases List.mem_cons.1 hp with rfl | hp
        · exact .inl ⟨by simp, hr⟩
        · exact ih (by simp at h; omega) p hp
      · have hc' : wdB c = false := by simpa using hc
        by_cases h2 : c = 32
        · subst h2; rw [partsL_blank] at hp; exact ih (by simp at h; omega) p hp
        · rw [partsL_other hc' h2] at hp
          rcases List.mem_cons.1 hp with rfl | hp
          · exact .inr ⟨c, rfl, hc', h2⟩
          · exact ih (by simp at h; omega) p hp
theorem Good.ne {p : List Int} (h : Good p) : p ≠ [] := by
  rcases h with h | ⟨c, rfl, _⟩
  · exact h.1
  · simp
theorem hw_word {a : Int} {r : List Int} (hr : ∀ x ∈ a :: r, wdB x = true) : hw (a :: r) = true := hr a (by simp)
theorem norm_true_le (ps : List (List Int)) : (normL true ps).length ≤ (normL false ps).length + 1 := by
  cases ps with
  | nil => simp [normL]
  | cons p r => simp only [normL, Bool.true_and, Bool.false_and]; split <;> simp
theorem norm_len : ∀ (n : Nat) {L : List Int}, L.length ≤ n → (normL false (partsL L)).length ≤ L.length := by
  intro n
  induction n with
  | zero => intro L h; obtain rfl : L = [] := List.eq_nil_of_length_eq_zero (by omega); simp [partsL_nil, normL]
  | succ n ih =>
    intro L h
    cases L with
    | nil => simp [partsL_nil, normL]
    | cons c L =>
      by_cases hc : wdB c = true
      · obtain ⟨r, q, rfl, hr, hq⟩ := run_split c L hc
        rw [parts_run hr hq]
        have h3 : (normL true (partsL q)).length ≤ q.length := by
          rcases hq with rfl | ⟨y, z, rfl, hy⟩
          · simp [partsL_nil, normL]
          · have hz := ih (L := z) (by simp at h; omega)
            by_cases h2 : y = 32
            · subst h2
              rw [partsL_blank]
              have := norm_true_le (partsL z)
              simp; omega
            · rw [partsL_other hy h2]
              simp [normL, hw, hy]; exact hz
        simp only [normL, hw_word hr, Bool.false_and]
        simp at h3 ⊢; omega
      · have hc' : wdB c = false := by simpa using hc
        have hz := ih (L := L) (by simp at h; omega)
        by_cases h2 : c = 32
        · subst h2; rw [partsL_blank]; simp; omega
        · rw [partsL_other hc' h2]
          simp [normL, hw, hc']; exact hz
theorem normS_len (L : List Int) : (normS L).length ≤ L.length := norm_len _ (Nat.le_refl _)
theorem norm_bs {ps : List (List Int)} (h : ∀ p ∈ ps, Bs p) (last : Bool) : Bs (normL last ps) := by
  induction ps generalizing last with
  | nil => intro x hx; simp [normL] at hx
  | cons p r ih =>
    intro x hx
    simp only [normL, List.mem_append] at hx
    rcases hx with hx | hx | hx
    · split at hx <;> simp at hx; subst hx; omega
    · exact h p (by simp) x hx
    · exact ih (fun q hq => h q (by simp [hq])) _ x hx
end Go.Proofs.YtpchncpcckfghaaGreat
namespace Go.Proofs.YtpchncpcckfghaaGreat
open Go.RowKit
set_option linter.unusedVariables false
set_option linter.unusedSimpArgs false
def Bld (B b : Nat) (l : List Int) (w : World) : Prop := Lib.IsBuilderF 143 5 B b (nums .u8 l) w
def BldW (v : Value) (B b : Nat) (l : List Int) (w : World) (e : Ending) (w' : World) : Prop := e = .returned v ∧ Bld B b l w' ∧ Below B w w' ∧ Lib.OthersKept 5 (some b) w w'
theorem infoBld : (Tryz.prog.info? 143).map (fun i => i.size) = some 2 := by kernel_rfl
theorem infoB8 : (Tryz.prog.info? 5).map (fun i => (i.zero, i.size, i.bytes)) = some (some (.int .u8 0), 1, 1) := by kernel_rfl
theorem bld_new (w : World) (B : Nat) (hB : B ≤ w.heap.size) : Bld B w.heap.size [] (w.alloc (.cells #[.pointer none, .slice none 0 0] 143)) :=
  .inl ⟨hB, .slice none 0 0, heap_alloc_new w _, ⟨rfl, .inl ⟨rfl, rfl⟩⟩, by simp [Value.ownBlock]⟩
theorem Bld.lt {B b : Nat} {l : List Int} {w : World} (h : Bld B b l w) : b < w.heap.size := by
  rcases h with h | h <;> exact h.lt
theorem bld_own_kept {w w' : World} {e : TypeId} {B : Nat} {v : Value} {n : Nat} {xs : List Value} (h : w.ownsRowF B e 1 v n xs) (hk : Below w.heap.size w w') : w'.ownsRowF B e 1 v n xs :=
  ⟨h.1, h.2.elim .inl fun ⟨g, cap, cur, fz, hv, hg, hh, r⟩ => .inr ⟨g, cap, cur, fz, hv, hg, (hk.block g (Array.getElem?_eq_some_iff.1 hh).1).trans hh, r⟩⟩
theorem Bld.below {B b : Nat} {l : List Int} {w w' : World} (h : Bld B b l w) (hk : Below w.heap.size w w') : Bld B b l w' := by
  have hlt := h.lt
  rcases h with ⟨hB, v, hb, hown, hne⟩ | ⟨hB, v, hb, hown, hne⟩
  · exact .inl ⟨hB, v, (hk.block b hlt).trans hb, bld_own_kept hown hk, hne⟩
  · exact .inr ⟨hB, v, (hk.block b hlt).trans hb, bld_own_kept hown hk, hne⟩
set_option maxHeartbeats 1000000 in
set_option maxRecDepth 100000 in
theorem check_used (b : Nat) (w : World) (h0 : w.cell? ⟨b, 0, none⟩ = some (.pointer (some ⟨b, 0, none⟩))) :
    Calls Tryz.prog 139 #[.pointer (some ⟨b, 0, none⟩)] w fun e w' => e = .returned (.tuple #[]) ∧ w' = w := by
  obtain ⟨j, hj, _⟩ := Option.map_eq_some_iff.1 infoBld
  go_enter Tryz.func139, Tryz.ntmps139
  go_wp2
  rw [Lib.run_neq_ptr_same w _ Tryz.underlying141 hj]
  go_wp2
  go_end0
  exact ⟨rfl, rfl⟩
set_option maxHeartbeats 1000000 in
set_option maxRecDepth 100000 in
theorem check_fresh (b : Nat) (w : World) (h0 : w.cell? ⟨b, 0, none⟩ = some (.pointer none)) (hsh : w.shape? b = some (143, 2)) (hfz : w.frozen? ⟨b, 0, none⟩ = false) :
    Calls Tryz.prog 139 #[.pointer (some ⟨b, 0, none⟩)] w fun e w' => e = .returned (.tuple #[]) ∧ w' = w.setCell ⟨b, 0, none⟩ (.pointer (some ⟨b, 0, none⟩)) := by
  obtain ⟨j, hj, hjs⟩ := Option.map_eq_some_iff.1 infoBld
  go_enter Tryz.func139, Tryz.ntmps139
  go_wp2
  rw [Lib.run_to_unsafe w ⟨b, 0, none⟩ Tryz.underlying141 Tryz.underlying166 hj (by rw [hjs]; decide) hsh (Nat.zero_lt_succ 1)]
  simp only [Result.andThen]
  rw [Oper.upon_value]
  go_wp2
  rw [run_callFunc_extern Tryz.func145 (by kernel_rfl) (by kernel_rfl) (by kernel_rfl) (e := Extern.AbiNoEscape.same) (by kernel_rfl)]
  rw [Lib.run_noEscape]
  simp only [Result.andThen]
  rw [Oper.upon_value]
  go_wp2
  rw [Lib.run_from_unsafe w ⟨b, 0, none⟩ Tryz.underlying166 Tryz.underlying141 hj hsh (by kernel_rfl)]
  simp only [Result.andThen]
  rw [Oper.upon_value]
  go_wp2
  go_end0
  exact ⟨rfl, rfl⟩
theorem check_any (B b : Nat) (l : List Int) (w : World) (h : Bld B b l w) :
    Calls Tryz.prog 139 #[.pointer (some ⟨b, 0, none⟩)] w fun e w' => e = .returned (.tuple #[]) ∧ Lib.BuilderAtF 143 5 B b (.pointer (some ⟨b, 0, none⟩)) (nums .u8 l) w' ∧ Below B w w' ∧ Lib.OthersKept 5 (some b) w w' := by
  rcases h with h | h
  · refine (check_fresh b w h.cell0 h.shape h.frozen0).mono ?_
    rintro e w' ⟨rfl, rfl⟩
    exact ⟨rfl, h.used _, (Below.refl B w).setCell (p := ⟨b, 0, none⟩) h.1 _, (Lib.OthersKept.refl _ _ w).setCell ⟨b, 0, none⟩ rfl _⟩
  · refine (check_used b w h.cell0).mono ?_
    rintro e w' ⟨rfl, rfl⟩
    exact ⟨rfl, h, Below.refl B _, Lib.OthersKept.refl _ _ _⟩
theorem hold_slice {w : World} {B : Nat} {v : Value} {n : Nat} {xs : List Value} (h : w.ownsRowF B 5 1 v n xs) : ∃ a m c, v = .slice a m c := by
  rcases h.2 with ⟨hv, _⟩ | ⟨g, cap, cur, fz, hv, _⟩
  · exact ⟨_, _, _, hv⟩
  · exact ⟨_, _, _, hv⟩
set_option maxHeartbeats 2000000 in
set_option maxRecDepth 100000 in
theorem wbyte_any (B b : Nat) (l : List Int) (c : Int) (w : World) (h : Bld B b l w) (hlen : l.length + 1 ≤ 140737488355328) (hBw : B ≤ w.heap.size) :
    Calls Tryz.prog 116 #[.pointer (some ⟨b, 0, none⟩), .int .u8 c] w (BldW .nilIface B b (l ++ [c]) w) := by
  obtain ⟨i0, hi, hz0, hz1, hz2⟩ := info_parts infoB8
  have hck := Lib.hid (check_any B b l w h)
  clear h
  go_enter Tryz.func116, Tryz.ntmps116
  go_wp2_with fail
  refine hck.out.mono ?_
  rintro e w1 ⟨rfl, h1, hb1, hk1⟩
  obtain ⟨hB, v, hbk, hown, hne⟩ := h1
  have c0 : w1.cell? ⟨b, 0, none⟩ = some (.pointer (some ⟨b, 0, none⟩)) := by rw [Lib.cell_of_heap hbk]; rfl
  have c1 : w1.cell? ⟨b, 1, none⟩ = some v := by rw [Lib.cell_of_heap hbk]; rfl
  have hnl : (nums .u8 l).length = l.length := by simp [nums]
  go_wp2_with (at_builtin; refine wpList_append_ownF _ rfl _ _ 82 rfl B 5 i0 (.int .u8 0) 1 1 Tryz.underlying82 hi hz0 hz1 hz2 rfl (by decide) _ _ _ rfl (hown.alloc _) ⟨w1.heap.size, 0, none⟩ 1 1 [.int .u8 c] rfl rfl ?c1 ?c2 ?c3 ?c4 ?c5 ?_)
  case c1 =>
    intro j u hj
    match j, hj with
    | 0, hj => simp at hj; subst hj; simp [Addr.add]
  case c2 => intro u hu; simp at hu; subst hu; rfl
  case c3 => unfold maxLen; omega
  case c4 => omega
  case c5 => have := hb1.size; simp; omega
  intro v' w2 hown' hgrow _
  have hlt : b < w1.heap.size := (Array.getElem?_eq_some_iff.1 hbk).1
  have hb2 : w2.heap[b]? = some (.cells #[.pointer (some ⟨b, 0, none⟩), v] 143 (0, 0)) := by
    rw [hgrow.block b (by simp; omega) (fun e => hne e.symm), Lib.alloc_old w1 _ b hlt]
    exact hbk
  have d0 : w2.cell? ⟨b, 0, none⟩ = some (.pointer (some ⟨b, 0, none⟩)) := by rw [Lib.cell_of_heap hb2]; rfl
  have d1 : w2.cell? ⟨b, 1, none⟩ = some v := by rw [Lib.cell_of_heap hb2]; rfl
  have f1 : w2.frozen? ⟨b, 1, none⟩ = false := Lib.frozen_of_heap hb2 1
  obtain ⟨ao, n', cap, rfl⟩ := hold_slice hown'
  go_wp2
  go_ret
  refine ⟨rfl, .inr ?_, ?_, ((hk1.alloc _).grown hgrow (Lib.ownsRowF_kind (hown.alloc _))).setCell ⟨b, 1, none⟩ rfl _⟩
  · rw [nums_snoc]
    exact Lib.BuilderAtF.put hB hb2 (by simpa [hnl] using hown') (by decide)
  · exact ((hb1.alloc (by have := hb1.size; omega) _).grown hgrow (by have := hb1.size; simp; omega) (fun k hk => (hown.lt k hk).1)).setCell (p := ⟨b, 1, none⟩) hB _
set_option maxHeartbeats 2000000 in
set_option maxRecDepth 100000 in
theorem wstr_any (B b : Nat) (l : List Int) (s : ByteArray) (w : World) (h : Bld B b l w) (hlen : l.length + s.size ≤ 140737488355328) (hBw : B ≤ w.heap.size) :
    Calls Tryz.prog 117 #[.pointer (some ⟨b, 0, none⟩), .string s] w (BldW (.tuple #[.int .i64 s.size, .nilIface]) B b (l ++ codes s) w) := by
  obtain ⟨i0, hi, hz0, hz1, hz2⟩ := info_parts infoB8
  have hck := Lib.hid (check_any B b l w h)
  clear h
  go_enter Tryz.func117, Tryz.ntmps117
  go_wp2_with fail
  refine hck.out.mono ?_
  rintro e w1 ⟨rfl, h1, hb1, hk1⟩
  obtain ⟨hB, v, hbk, hown, hne⟩ := h1
  have c0 : w1.cell? ⟨b, 0, none⟩ = some (.pointer (some ⟨b, 0, none⟩)) := by rw [Lib.cell_of_heap hbk]; rfl
  have c1 : w1.cell? ⟨b, 1, none⟩ = some v := by rw [Lib.cell_of_heap hbk]; rfl
  have hnl : (nums .u8 l).length = l.length := by simp [nums]
  go_wp2_with (at_builtin; refine Lib.wpList_append_own_stringF _ rfl _ _ 82 9 rfl B 5 i0 Tryz.underlying82 Tryz.underlying9 hi hz0 hz1 hz2 _ _ _ rfl hown s rfl ?c3 ?c4 ?c5 ?_)
  case c3 => unfold maxLen; omega
  case c4 => omega
  case c5 => have := hb1.size; omega
  intro v' w2 hown' hgrow _
  have hlt : b < w1.heap.size := (Array.getElem?_eq_some_iff.1 hbk).1
  have hb2 : w2.heap[b]? = some (.cells #[.pointer (some ⟨b, 0, none⟩), v] 143 (0, 0)) := by
    rw [hgrow.block b hlt (fun e => hne e.symm)]
    exact hbk
  have d0 : w2.cell? ⟨b, 0, none⟩ = some (.pointer (some ⟨b, 0, none⟩)) := by rw [Lib.cell_of_heap hb2]; rfl
  have d1 : w2.cell? ⟨b, 1, none⟩ = some v := by rw [Lib.cell_of_heap hb2]; rfl
  have f1 : w2.frozen? ⟨b, 1, none⟩ = false := Lib.frozen_of_heap hb2 1
  obtain ⟨ao, n', cap, rfl⟩ := hold_slice hown'
  go_wp2
  go_ret2
  refine ⟨rfl, .inr ?_, ?_, (hk1.grown hgrow (Lib.ownsRowF_kind hown)).setCell ⟨b, 1, none⟩ rfl _⟩
  · have e1 : nums .u8 (l ++ codes s) = nums .u8 l ++ Lib.strCells s := by simp [nums, codes, Lib.strCells]
    rw [e1]
    exact Lib.BuilderAtF.put hB hb2 (by simpa [Lib.strCells_length, hnl] using hown') (by decide)
  · exact (hb1.grown hgrow (by have := hb1.size; omega) (fun k hk => (hown.lt k hk).1)).setCell (p := ⟨b, 1, none⟩) hB _
theorem bytes_nums {l : List Int} (h : Bs l) : nums .u8 l = Lib.byteCells (strOfNums l).data.toList := by
  rw [strOfNums_data]
  simp only [nums, Lib.byteCells, List.map_map]
  apply List.map_congr_left
  intro x hx
  have := h x hx
  simp only [Function.comp, UInt8.toNat_ofNat']
  congr 1
  omega
theorem bstr_any (B b : Nat) (l : List Int) (w : World) (h : Bld B b l w) (hl : Bs l) (hBw : B ≤ w.heap.size) :
    Calls Tryz.prog 118 #[.pointer (some ⟨b, 0, none⟩)] w (BldW (.string (strOfNums l)) B b l w) := by
  unfold Bld at h
  rw [bytes_nums hl] at h
  refine (Tryz.Builder_String_any_k B b _ w h hBw).mono ?_
  rintro e w' ⟨rfl, h1, h2, h3⟩
  refine ⟨rfl, ?_, h2, h3⟩
  unfold Bld
  rw [bytes_nums hl]
  exact h1
end Go.Proofs.YtpchncpcckfghaaGreat
namespace Go.Proofs.YtpchncpcckfghaaGreat
open Go.RowKit
set_option linter.unusedVariables false
set_option linter.unusedSimpArgs false
theorem row_kept {w w' : World} {base b : Nat} {v : Value} {n : Nat} {xs : List Value} (h : w.ownsRow base 9 1 v n xs) (hb : v.ownBlock ≠ some b) (hk : Lib.OthersKept 5 (some b) w w') : w'.ownsRow base 9 1 v n xs := by
  refine ⟨h.1, ?_⟩
  rcases h.2 with h | ⟨g, cap, cur, hv, hg, hh, r⟩
  · exact .inl h
  · exact .inr ⟨g, cap, cur, hv, hg, hk g _ hh (by rw [hv] at hb; exact hb) (by intro c fz e; simp at e), r⟩
theorem head_at {p : List Int} (h : p ≠ []) : p.getD 0 0 = p.headD 0 := by cases p <;> simp at h ⊢
theorem norm_step {ps : List (List Int)} {k : Nat} (hk : k < ps.length) (last : Bool) : normL last (ps.drop k) = (if last && hw (ps.getD k []) then [32] else []) ++ ((ps.getD k []) ++ normL (hw (ps.getD k [])) (ps.drop (k + 1))) := by
  rw [List.drop_eq_getElem_cons hk]
  simp [normL, List.getD, hk]
set_option maxHeartbeats 2000000 in
set_option maxRecDepth 100000 in
theorem norm_any (s : ByteArray) (hs : s.size ≤ 100000) (w : World) : Calls Tryz.prog 100 #[.string s] w (Gives (.string (strOfNums (normS (codes s)))) w) := by
  have hlen := normS_len (codes s)
  rw [codes_length] at hlen
  have hpl : ∀ W, Calls Tryz.prog 114 #[.string s] W (GivesT (partsL (codes s)) W) := fun W => parts_any s hs W
  have hgood := parts_good _ (Nat.le_refl (codes s).length)
  have hbsAll := parts_bs _ (Nat.le_refl (codes s).length) (codes_bs s)
  have htot : Hid (normL false (partsL (codes s)) = normS (codes s)) := Lib.hid rfl
  have hT : Hid ((normS (codes s)).length ≤ 100000) := Lib.hid (by omega)
  have hTb : Hid (Bs (normS (codes s))) := Lib.hid (norm_bs hbsAll false)
  have hgood' := Lib.hid hgood
  have hbs' := Lib.hid hbsAll
  have hpl' := Lib.hid hpl
  have hnum : Hid ((partsL (codes s)).length ≤ 100000) := Lib.hid (by
    have h : ∀ (ps : List (List Int)) (last : Bool), (∀ p ∈ ps, Good p) → ps.length ≤ (normL last ps).length := by
      intro ps
      induction ps with
      | nil => intro _ _; simp
      | cons p r ih =>
        intro last hg
        have h1 := ih (hw p) (fun x hx => hg x (by simp [hx]))
        have h2 : 0 < p.length := List.length_pos_iff.2 (hg p (by simp)).ne
        simp only [normL, List.length_append, List.length_cons]; omega
    have := h _ false hgood
    unfold normS at hlen; omega)
  clear hlen hpl hgood hbsAll hs
  generalize partsL (codes s) = ps at *
  generalize normS (codes s) = T at *
  go_enter Tryz.func100, Tryz.ntmps100
  go_wp2_with fail
  refine (hpl'.out _).mono ?_
  rintro e W1 ⟨v, rfl, hrow, hB1⟩
  obtain ⟨a, c, rfl, -, -⟩ := sees_ownT hrow.1
  have hne : Hid ((Value.slice a (ps.map strOfNums).length c).ownBlock ≠ some w.heap.size) := Lib.hid (by
    intro e
    have := hrow.2 _ e
    simp at this; omega)
  have hown0 := hrow.1
  have hbld0 : Hid (Bld w.heap.size w.heap.size [] W1) := Lib.hid ((bld_new w w.heap.size (Nat.le_refl _)).below hB1)
  have hB0 : Hid (Below w.heap.size w W1) := Lib.hid (((Below.refl _ _).alloc (Nat.le_refl _) _).trans (hB1.mono (by simp)))
  have hown0' := Lib.hid hown0
  clear hrow hown0 hB1
  go_wp2
  go_loopw [4, 11] (fun word i wr => ∃ (k : Nat) (acc : List Int) (last : Bool), k ≤ ps.length ∧ i = .int .i64 k ∧ word = .bool last ∧ Hid (acc ++ normL last (ps.drop k) = T) ∧ Hid (Bld w.heap.size w.heap.size acc wr) ∧ Hid (wr.ownsRow 0 9 1 (.slice a (ps.map strOfNums).length c) (ps.map strOfNums).length (txts (ps.map strOfNums))) ∧ Hid (Below w.heap.size w wr)) (fun _ i _ => ps.length - (intOf i).toNat)
  case atStart => exact ⟨0, [], false, by omega, rfl, rfl, Lib.hid (by simpa using htot.out), hbld0, hown0', hB0⟩
  case round =>
    obtain ⟨k, acc, last, hk, rfl, rfl, htt, hbld, hown, hB⟩ := hrel
    have hkb := hnum.out
    by_cases hlt : k < ps.length
    · have hlt' : 0 < (ps.map strOfNums).length := by simp; omega
      obtain ⟨a', c', hv, -, hs⟩ := sees_ownT hown.out
      have ea : a = a' := by injection hv
      subst ea
      clear hv
      rcases hs with h | ⟨b1, o1, rfl, -, g1⟩
      · rw [h] at hlt'; simp at hlt'
      have e1 := g1 k (by simpa using hlt)
      rw [show (ps.map strOfNums).getD k ⟨#[]⟩ = strOfNums (ps.getD k []) by simp [List.getD, hlt]] at e1
      clear g1
      have hgk := hgood'.out (ps.getD k []) (by simp [List.getD, hlt])
      have hbk := hbs'.out (ps.getD k []) (by simp [List.getD, hlt])
      have hst := Lib.hid (norm_step hlt last)
      have hpl : 0 < (ps.getD k []).length := List.length_pos_iff.2 hgk.ne
      have hz : ∀ W, (Instr.index 9 (.string (strOfNums (ps.getD k []))) (.int .i64 0)).run Tryz.prog W = .ok (.int .u8 ((ps.getD k []).headD 0)) W := fun W => by
        have := ix (strOfNums (ps.getD k [])) 0 (by rw [← codes_length, codes_str hbk]; exact hpl) W
        rw [codes_str hbk, head_at hgk.ne] at this
        exact this
      have hc0 := hbk.at hpl
      rw [head_at hgk.ne] at hc0
      have hcall := Lib.hid (fun W => wordByte_any ((ps.getD k []).headD 0) hc0.1 hc0.2 W)
      rw [show wdB ((ps.getD k []).headD 0) = hw (ps.getD k []) from rfl] at hcall
      have hsz : Hid ((strOfNums (ps.getD k [])).size = (ps.getD k []).length) := Lib.hid (by rw [← codes_length, codes_str hbk])
      have hcd : Hid (codes (strOfNums (ps.getD k [])) = ps.getD k []) := Lib.hid (codes_str hbk)
      clear hgk hbk hpl hc0
      generalize (ps.getD k []).headD 0 = c0 at *
      generalize ps.getD k [] = p at *
      generalize hw p = isw at *
      have hL : Hid ((acc ++ normL last (ps.drop k)).length ≤ 100000) := Lib.hid (by rw [htt.out]; exact hT.out)
      go_wp2_with fail
      refine (hcall.out _).mono ?_
      rintro e w' ⟨rfl, rfl⟩
      by_cases hsep : (last && isw) = true
      · obtain ⟨rfl, rfl⟩ : last = true ∧ isw = true := by cases last <;> cases isw <;> simp_all
        have hwb := Lib.hid (wbyte_any w.heap.size w.heap.size acc 32 wr hbld.out (by have := hL.out; simp at this; omega) hB.out.size)
        clear hsep
        go_wp2_with fail
        refine hwb.out.mono ?_
        rintro e W2 ⟨rfl, hbld2, hB2, hk2⟩
        have hws := Lib.hid (wstr_any w.heap.size w.heap.size (acc ++ [32]) (strOfNums p) W2 hbld2 (by have := hL.out; rw [hst.out] at this; rw [hsz.out]; simp at this ⊢; omega) (by have := hB.out.size; have := hB2.size; omega))
        clear hbld2 hwb
        go_wp2_with fail
        refine hws.out.mono ?_
        rintro e W3 ⟨rfl, hbld3, hB3, hk3⟩
        rw [hcd.out] at hbld3
        have hbld3' := Lib.hid hbld3
        have hown3 := Lib.hid (row_kept (row_kept hown.out hne.out hk2) hne.out hk3)
        have hB3' := Lib.hid ((hB.out.trans hB2).trans hB3)
        have htt3 : Hid ((acc ++ [32] ++ p) ++ normL true (ps.drop (k + 1)) = T) := Lib.hid (by rw [← htt.out, hst.out]; simp)
        clear hbld3 hws hB2 hk2 hB3 hk3 hbld hown hB htt hst hL
        go_wp2
        go_roundw
        case rel => exact ⟨k + 1, _, true, by omega, by go_num, rfl, htt3, hbld3', hown3, hB3'⟩
        case measure => simp [intOf]; omega
      · have hws := Lib.hid (wstr_any w.heap.size w.heap.size acc (strOfNums p) wr hbld.out (by have := hL.out; rw [hst.out] at this; rw [hsz.out]; simp at this ⊢; omega) hB.out.size)
        have htt3 : Hid ((acc ++ p) ++ normL isw (ps.drop (k + 1)) = T) := Lib.hid (by rw [← htt.out, hst.out, if_neg hsep]; simp)
        have hsp : (last && isw) = false := by simpa using hsep
        clear hsep
        cases last
        · go_wp2_with fail
          refine hws.out.mono ?_
          rintro e W3 ⟨rfl, hbld3, hB3, hk3⟩
          rw [hcd.out] at hbld3
          have hbld3' := Lib.hid hbld3
          have hown3 := Lib.hid (row_kept hown.out hne.out hk3)
          have hB3' := Lib.hid (hB.out.trans hB3)
          clear hbld3 hws hB3 hk3 hbld hown hB htt hst hL
          go_wp2
          go_roundw
          case rel => exact ⟨k + 1, _, isw, by omega, by go_num, rfl, htt3, hbld3', hown3, hB3'⟩
          case measure => simp [intOf]; omega
        · obtain rfl : isw = false := by simpa using hsp
          go_wp2_with fail
          refine hws.out.mono ?_
          rintro e W3 ⟨rfl, hbld3, hB3, hk3⟩
          rw [hcd.out] at hbld3
          have hbld3' := Lib.hid hbld3
          have hown3 := Lib.hid (row_kept hown.out hne.out hk3)
          have hB3' := Lib.hid (hB.out.trans hB3)
          clear hbld3 hws hB3 hk3 hbld hown hB htt hst hL
          go_wp2
          go_roundw
          case rel => exact ⟨k + 1, _, false, by omega, by go_num, rfl, htt3, hbld3', hown3, hB3'⟩
          case measure => simp [intOf]; omega
    · have hfin : Hid (acc = T) := Lib.hid (by
        have := htt.out
        rw [List.drop_of_length_le (by omega)] at this
        simpa [normL] using this)
      have hstr := Lib.hid (bstr_any w.heap.size w.heap.size acc wr hbld.out (by rw [hfin.out]; exact hTb.out) hB.out.size)
      clear hbld
      go_wp2_with fail
      refine hstr.out.mono ?_
      rintro e W3 ⟨rfl, -, hB3, -⟩
      have hres : Gives (.string (strOfNums T)) w (.returned (.string (strOfNums acc))) W3 := ⟨by rw [hfin.out], hB.out.trans hB3⟩
      clear hstr hB3
      go_wp2
      go_ret
      exact hres
end Go.Proofs.YtpchncpcckfghaaGreat
