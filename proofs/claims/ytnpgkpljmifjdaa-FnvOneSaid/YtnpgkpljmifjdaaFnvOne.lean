/- FnvOne: the walk of the statement's function. -/
import Derived.Test.YtnpgkpljmifjdaaFnvLives
import Derived.Test.YtnpgkpljmifjdaaDrawn
import Derived.Laws.OwnMore
namespace Go.Proofs.Ytnpgkpljmifjdaa
open Go.RowKit
set_option linter.unusedVariables false
set_option linter.unusedSimpArgs false
attribute [local go_sem ↓] Go.wp_at_zero Go.wp_at_succ

theorem bs_set {l : List Int} (h : Bs l) (i : Nat) {x : Int} (hx : 0 ≤ x ∧ x ≤ 255) : Bs (l.set i x) := by
  intro y hy
  rcases List.mem_or_eq_of_mem_set hy with hy | rfl
  · exact h y hy
  · exact hx

theorem own_open {k : IntKind} {w : World} {base : Nat} {e : TypeId} {v : Value} {n : Nat} {l : List Int} (h : w.ownsRow base e 1 v n (nums k l)) (hn : 0 < n) : ∃ g cap, v = .slice (some ⟨g, 0, none⟩) n cap ∧ base ≤ g := by
  rcases h.2 with ⟨_, h0⟩ | ⟨g, cap, cur, h1, hg, _⟩
  · omega
  · exact ⟨g, cap, h1, hg⟩

theorem own_store {w w2 : World} {e : TypeId} {v : Value} {l r : List Int} {i : Nat} {x : Int} {u : Value} (hown : w2.ownsRow w.heap.size e 1 v l.length (nums .u8 l)) (hil : i < l.length) (hu : (nums .u8 l)[i]? = some u)
    (hset : (nums .u8 l).set i (.int .u8 x) = nums .u8 r) (hr : r.length = l.length) (hw2 : Below w.heap.size w w2) :
    ∃ g cap, v = .slice (some ⟨g, 0, none⟩) l.length cap ∧ w2.cell? ⟨g, i, none⟩ = some u ∧ w2.frozen? ⟨g, i, none⟩ = false ∧
      Hid (Sees .u8 (w2.setCell ⟨g, i, none⟩ (.int .u8 x)).heap.size (w2.setCell ⟨g, i, none⟩ (.int .u8 x)) (some ⟨g, 0, none⟩) r) ∧ Hid (Below w.heap.size w (w2.setCell ⟨g, i, none⟩ (.int .u8 x))) := by
  obtain ⟨g, cap, rfl, hg⟩ := own_open hown (by omega)
  have hcell := hown.cellAt i (by omega)
  have hst := (hown.stored i (.int .u8 x)).1
  rw [hset, ← hr] at hst
  obtain ⟨a, c, hv, _, hs⟩ := sees_own hst
  injection hv with ha _ _
  subst ha
  exact ⟨g, cap, rfl, by rw [hcell, hu], hown.frozenAt i, Lib.hid hs, Lib.hid (hw2.setCell (p := ⟨g, i, none⟩) hg _)⟩

set_option maxRecDepth 100000 in
set_option maxHeartbeats 2000000 in
theorem fnvOne_walk (w : World)
    (a : Option Addr) (len cap : Nat) (l : List Int) (hlen : l.length = len) (hm : len ≤ maxLen) (hcap : len ≤ cap) (hwf : ∀ n ∈ l, (Lit.int .u8 n).wf = true) (hs : Sees .u8 w.heap.size w a l)
    (p : Int) (hpw : (Lit.int .i64 p).wf = true) (x : Int) (hxw : (Lit.int .u8 x).wf = true) :
    Calls Try.prog 5 #[.slice a len cap, .int .i64 p, .int .u8 x] w (Gives (.bool true) w) := by
  obtain ⟨i0, hi, hz0, hz1, hz2⟩ := info_parts infoU8
  have hb := bs_of_wf hwf
  clear hwf
  subst hlen
  have hx : 0 ≤ x ∧ x ≤ 255 := by simpa [Lit.wf, IntKind.min, IntKind.max, IntKind.signed, IntKind.bits] using hxw
  have hm' := hm
  unfold maxLen at hm'
  by_cases hbig : 3000 < l.length
  · go_enter Try.func5, Try.ntmps5
    go_wp2_with (go_at_call 7; refine (lives_any _).mono ?_; rintro e w' ⟨rfl, hb'⟩)
    go_ret
    exact ⟨rfl, hb'⟩
  have hd : decide ((3000 : Int) < (l.length : Int)) = false := by simp; omega
  by_cases hneg : p < 0
  · go_enter Try.func5, Try.ntmps5
    go_wp2_with (go_at_call 7; refine (lives_any _).mono ?_; rintro e w' ⟨rfl, hb'⟩)
    go_ret
    exact ⟨rfl, hb'⟩
  obtain ⟨i, rfl⟩ := Int.eq_ofNat_of_zero_le (show 0 ≤ p by omega)
  have hd2 : decide ((i : Int) < 0) = false := by simp
  by_cases hout : l.length ≤ i
  · go_enter Try.func5, Try.ntmps5
    go_wp2_with (go_at_call 7; refine (lives_any _).mono ?_; rintro e w' ⟨rfl, hb'⟩)
    go_ret
    exact ⟨rfl, hb'⟩
  have hd3 : decide ((l.length : Int) ≤ (i : Int)) = false := by simp; omega
  have hil : i < l.length := by omega
  have c1 := fun B w hc => sum_any a l l.length cap rfl B w hm hb hc
  have c2 := fun b c B w hc => sum_any b (l.set i x) l.length c (by simp) B w (by simp; exact hm) (bs_set hb i hx) hc
  have heq : ((fsum fstart l == fsum fstart (l.set i x)) == (l.getD i 0 == x)) = true := by
    have h := fsum_set hb hil hx fstart_in
    by_cases he : l.getD i 0 = x
    · rw [show (l.getD i 0 == x) = true from by simpa using he, show (fsum fstart l == fsum fstart (l.set i x)) = true from by simpa using h.2 he]; rfl
    · rw [show (l.getD i 0 == x) = false from by simpa using he, show (fsum fstart l == fsum fstart (l.set i x)) = false from by simpa using fun hc => he (h.1 hc)]; rfl
  have hset : (nums .u8 l).set i (.int .u8 x) = nums .u8 (l.set i x) := by simp [nums, List.map_set]
  obtain ⟨u, hu⟩ : ∃ u, (nums .u8 l)[i]? = some u := ⟨_, List.getElem?_eq_getElem (by simp [nums]; exact hil)⟩
  generalize fsum fstart l = V1 at *
  generalize fsum fstart (l.set i x) = V2 at *
  have hlset : (l.set i x).length = l.length := by simp
  obtain ⟨r, hr⟩ : ∃ r, l.set i x = r := ⟨_, rfl⟩
  rw [hr] at c2 hset hlset
  have c1' := Lib.hid c1
  have c2' := Lib.hid c2
  have heq' := Lib.hid heq
  have hset' := Lib.hid hset
  have hu' := Lib.hid hu
  have hlset' := Lib.hid hlset
  clear c1 c2 heq hset hu hr hlset
  go_enter Try.func5, Try.ntmps5
  go_wp2_with (at_builtin; refine wpList_append_sees _ rfl (.tmp 22) (.tmp 23) 23 rfl w 5 i0 (.int .u8 0) 1 Try.underlying23 hi hz0 hz1 hz2 rfl .u8 _ [] (by exact own_empty 5 .u8 (Below.refl _ w)) (by exact (Below.refl _ w).alloc (Nat.le_refl _) _) w.heap.size a l (by exact hs.below ((Below.refl _ w).alloc (Nat.le_refl _) _)) l.length cap rfl rfl rfl (by simp; omega) (by omega) ?_; intro v2 w2 hown2 hw2; simp only [List.nil_append] at hown2; obtain ⟨g, cap2, rfl, hcell, hfz, hS', hw3'⟩ := own_store hown2 hil hu'.out hset'.out hlset'.out hw2; clear hown2)
  have kA := hs.below hw3'.out
  have kR := hS'.out
  have hB := hw3'.out
  generalize w2.setCell ⟨g, i, none⟩ (Value.int IntKind.u8 x) = w3 at *
  clear hcell hfz hw2 hs hw3' hS'
  have hA : ∀ W, Below w3.heap.size w3 W → Sees .u8 w.heap.size W a l := fun W hW => kA.below (hW.mono hB.size)
  have hR : ∀ W, Below w3.heap.size w3 W → Sees .u8 w3.heap.size W (some ⟨g, 0, none⟩) r := fun W hW => kR.below hW
  obtain ⟨b, off, rfl, hcell⟩ : ∃ b off, a = some ⟨b, off, none⟩ ∧ ∀ W, Below w3.heap.size w3 W → W.cell? ⟨b, off + i, none⟩ = some (.int .u8 (l.getD i 0)) := by
    rcases kA with rfl | ⟨b, off, rfl, hlt, hc⟩
    · simp at hil
    · exact ⟨b, off, rfl, fun W hW => ((hW.mono hB.size).cell (p := ⟨b, off + i, none⟩) hlt).trans (hc i hil)⟩
  generalize l.getD i 0 = y at *
  have hA' := hA
  clear kA kR
  refine wp_drawn (by kernel_rfl) (fun hHeld => ?_)
  refine wpAnyH_ready (rs := [0]) (by kernel_rfl) (by simp) ?_
  refine AllReadyH.cons (o := { dst := some 29, op := Go.Op.call { callee := Go.Callee.value (Go.Operand.func 7), args := #[], argTypes := #[] }, type := 4, pos := "law.go:42", after := #[], guard := none }) rfl (fun K hK => ?_) AllReadyH.nil
  go_simp
  refine (lives_any _).mono ?_
  rintro e w4 ⟨rfl, hb4⟩
  have hb4' : Below w3.heap.size w3 w4 := hHeld.trans (hb4.mono (Nat.le_refl _))
  go_simp
  refine hK.out _ _ (hb4') (fun hHeld => ?_)
  clear hK K
  try simp only [Act.put, List.setIfInBounds_toArray, List.set_cons_zero, List.set_cons_succ]
  refine wpAnyH_now hHeld (fun hHeld => ?_)
  replace hcell := rebase hcell hb4'
  replace hA := rebase hA hb4'
  replace hR := rebase hR hb4'
  refine wpAnyH_take (i := 1) (oi := { dst := some 30, op := Go.Op.move (Go.Operand.tmp 29), type := 4, pos := "law.go:42", after := #[{ on := 0, ground := Go.Ground.data }, { on := 0, ground := Go.Ground.chain }], guard := none }) (v := ?v1) rfl (by kernel_rfl) (by kernel_rfl) (by kernel_rfl) (fun _ _ _ h => h) (Or.inl ⟨by kernel_rfl, ?h1⟩) (by assumption) ?r1
  case h1 => (intro w hSw; (try dsimp only at hSw); go_simp; try with_reducible rfl)
  try simp only [Act.put, List.setIfInBounds_toArray, List.set_cons_zero, List.set_cons_succ]
  refine wpAnyH_take (i := 2) (oi := { dst := some 31, op := Go.Op.move (Go.Operand.tmp 0), type := 23, pos := "law.go:42", after := #[{ on := 1, ground := Go.Ground.guard }], guard := some (1, true) }) (v := ?v2) rfl (by kernel_rfl) (by kernel_rfl) (by kernel_rfl) (fun _ _ _ h => h) (Or.inl ⟨by kernel_rfl, ?h2⟩) (by assumption) ?r2
  case h2 => (intro w hSw; (try dsimp only at hSw); go_simp; try with_reducible rfl)
  try simp only [Act.put, List.setIfInBounds_toArray, List.set_cons_zero, List.set_cons_succ]
  refine wpAnyH_take (i := 4) (oi := { dst := some 33, op := Go.Op.move (Go.Operand.tmp 7), type := 23, pos := "law.go:42", after := #[{ on := 1, ground := Go.Ground.guard }], guard := some (1, true) }) (v := ?v3) rfl (by kernel_rfl) (by kernel_rfl) (by kernel_rfl) (fun _ _ _ h => h) (Or.inl ⟨by kernel_rfl, ?h3⟩) (by assumption) ?r3
  case h3 => (intro w hSw; (try dsimp only at hSw); go_simp; try with_reducible rfl)
  try simp only [Act.put, List.setIfInBounds_toArray, List.set_cons_zero, List.set_cons_succ]
  refine wpAnyH_take (i := 7) (oi := { dst := some 36, op := Go.Op.move (Go.Operand.tmp 0), type := 23, pos := "law.go:42", after := #[{ on := 1, ground := Go.Ground.guard }], guard := some (1, true) }) (v := ?v4) rfl (by kernel_rfl) (by kernel_rfl) (by kernel_rfl) (fun _ _ _ h => h) (Or.inl ⟨by kernel_rfl, ?h4⟩) (by assumption) ?r4
  case h4 => (intro w hSw; (try dsimp only at hSw); go_simp; try with_reducible rfl)
  try simp only [Act.put, List.setIfInBounds_toArray, List.set_cons_zero, List.set_cons_succ]
  refine wpAnyH_take (i := 8) (oi := { dst := some 37, op := Go.Op.move (Go.Operand.tmp 1), type := 3, pos := "law.go:42", after := #[{ on := 1, ground := Go.Ground.guard }], guard := some (1, true) }) (v := ?v5) rfl (by kernel_rfl) (by kernel_rfl) (by kernel_rfl) (fun _ _ _ h => h) (Or.inl ⟨by kernel_rfl, ?h5⟩) (by assumption) ?r5
  case h5 => (intro w hSw; (try dsimp only at hSw); go_simp; try with_reducible rfl)
  try simp only [Act.put, List.setIfInBounds_toArray, List.set_cons_zero, List.set_cons_succ]
  refine wpAnyH_take (i := 9) (oi := { dst := some 38, op := Go.Op.indexAddr 23 (Go.Operand.tmp 36) (Go.Operand.tmp 37), type := 0, pos := "law.go:42", after := #[{ on := 7, ground := Go.Ground.data }, { on := 8, ground := Go.Ground.data }, { on := 1, ground := Go.Ground.guard }], guard := some (1, true) }) (v := ?v6) rfl (by kernel_rfl) (by kernel_rfl) (by kernel_rfl) (fun _ _ _ h => h) (Or.inl ⟨by kernel_rfl, ?h6⟩) (by assumption) ?r6
  case h6 => (intro w hSw; (try dsimp only at hSw); go_simp; try with_reducible rfl)
  try simp only [Act.put, List.setIfInBounds_toArray, List.set_cons_zero, List.set_cons_succ]
  refine wpAnyH_take (i := 10) (oi := { dst := some 39, op := Go.Op.load 5 (Go.Operand.tmp 38), type := 5, pos := "law.go:42", after := #[{ on := 9, ground := Go.Ground.data }, { on := 1, ground := Go.Ground.guard }], guard := some (1, true) }) (v := ?v7) rfl (by kernel_rfl) (by kernel_rfl) (by kernel_rfl) (fun _ _ _ h => h) (Or.inl ⟨by kernel_rfl, ?h7⟩) (by assumption) ?r7
  case h7 => (intro w hSw; (try dsimp only at hSw); go_simp; try with_reducible rfl)
  try simp only [Act.put, List.setIfInBounds_toArray, List.set_cons_zero, List.set_cons_succ]
  refine wpAnyH_take (i := 11) (oi := { dst := some 40, op := Go.Op.move (Go.Operand.tmp 2), type := 5, pos := "law.go:42", after := #[{ on := 1, ground := Go.Ground.guard }], guard := some (1, true) }) (v := ?v8) rfl (by kernel_rfl) (by kernel_rfl) (by kernel_rfl) (fun _ _ _ h => h) (Or.inl ⟨by kernel_rfl, ?h8⟩) (by assumption) ?r8
  case h8 => (intro w hSw; (try dsimp only at hSw); go_simp; try with_reducible rfl)
  try simp only [Act.put, List.setIfInBounds_toArray, List.set_cons_zero, List.set_cons_succ]
  refine wpAnyH_take (i := 12) (oi := { dst := some 41, op := Go.Op.binOp Go.BinOp.eql 5 (Go.Operand.tmp 39) (Go.Operand.tmp 40) 5, type := 4, pos := "law.go:42", after := #[{ on := 10, ground := Go.Ground.data }, { on := 11, ground := Go.Ground.data }, { on := 1, ground := Go.Ground.guard }], guard := some (1, true) }) (v := ?v9) rfl (by kernel_rfl) (by kernel_rfl) (by kernel_rfl) (fun _ _ _ h => h) (Or.inl ⟨by kernel_rfl, ?h9⟩) (by assumption) ?r9
  case h9 => (intro w hSw; (try dsimp only at hSw); go_simp; try with_reducible rfl)
  try simp only [Act.put, List.setIfInBounds_toArray, List.set_cons_zero, List.set_cons_succ]
  refine wpAnyH_ready (rs := [3]) (by kernel_rfl) (by simp) ?_
  refine AllReadyH.cons (o := { dst := some 32, op := Go.Op.call { callee := Go.Callee.value (Go.Operand.func 8), args := #[Go.Operand.tmp 31], argTypes := #[23] }, type := 22, pos := "law.go:42", after := #[{ on := 2, ground := Go.Ground.data }, { on := 1, ground := Go.Ground.chain }, { on := 1, ground := Go.Ground.guard }], guard := some (1, true) }) rfl (fun K hK => ?_) AllReadyH.nil
  go_simp
  refine (c1'.out _ _ (hA _ hHeld)).mono ?_
  rintro e w' ⟨rfl, rfl⟩
  go_simp
  refine hK.out _ _ hHeld (fun hHeld => ?_)
  clear hK K
  try simp only [Act.put, List.setIfInBounds_toArray, List.set_cons_zero, List.set_cons_succ]
  refine wpAnyH_ready (rs := [5]) (by kernel_rfl) (by simp) ?_
  refine AllReadyH.cons (o := { dst := some 34, op := Go.Op.call { callee := Go.Callee.value (Go.Operand.func 8), args := #[Go.Operand.tmp 33], argTypes := #[23] }, type := 22, pos := "law.go:42", after := #[{ on := 4, ground := Go.Ground.data }, { on := 3, ground := Go.Ground.chain }, { on := 1, ground := Go.Ground.guard }], guard := some (1, true) }) rfl (fun K hK => ?_) AllReadyH.nil
  go_simp
  refine (c2'.out _ _ _ _ (hR _ hHeld)).mono ?_
  rintro e w' ⟨rfl, rfl⟩
  go_simp
  refine hK.out _ _ hHeld (fun hHeld => ?_)
  clear hK K
  try simp only [Act.put, List.setIfInBounds_toArray, List.set_cons_zero, List.set_cons_succ]
  refine wpAnyH_take (i := 6) (oi := { dst := some 35, op := Go.Op.binOp Go.BinOp.eql 22 (Go.Operand.tmp 32) (Go.Operand.tmp 34) 22, type := 4, pos := "law.go:42", after := #[{ on := 3, ground := Go.Ground.data }, { on := 5, ground := Go.Ground.data }, { on := 1, ground := Go.Ground.guard }], guard := some (1, true) }) (v := ?v10) rfl (by kernel_rfl) (by kernel_rfl) (by kernel_rfl) (fun _ _ _ h => h) (Or.inl ⟨by kernel_rfl, ?h10⟩) (by assumption) ?r10
  case h10 => (intro w hSw; (try dsimp only at hSw); go_simp; try with_reducible rfl)
  try simp only [Act.put, List.setIfInBounds_toArray, List.set_cons_zero, List.set_cons_succ]
  refine wpAnyH_take (i := 13) (oi := { dst := some 42, op := Go.Op.binOp Go.BinOp.eql 4 (Go.Operand.tmp 35) (Go.Operand.tmp 41) 4, type := 4, pos := "law.go:42", after := #[{ on := 6, ground := Go.Ground.data }, { on := 12, ground := Go.Ground.data }, { on := 1, ground := Go.Ground.guard }], guard := some (1, true) }) (v := ?v11) rfl (by kernel_rfl) (by kernel_rfl) (by kernel_rfl) (fun _ _ _ h => h) (Or.inl ⟨by kernel_rfl, ?h11⟩) (by assumption) ?r11
  case h11 => (intro w hSw; (try dsimp only at hSw); go_simp; try with_reducible rfl)
  try simp only [Act.put, List.setIfInBounds_toArray, List.set_cons_zero, List.set_cons_succ]
  refine wpAnyH_take (i := 14) (oi := { dst := some 43, op := Go.Op.pick (Go.Operand.tmp 30) (Go.Operand.tmp 42) (Go.Operand.const (Go.Value.bool false)), type := 4, pos := "law.go:42", after := #[{ on := 1, ground := Go.Ground.data }, { on := 13, ground := Go.Ground.data }], guard := none }) (v := ?v12) rfl (by kernel_rfl) (by kernel_rfl) (by kernel_rfl) (fun _ _ _ h => h) (Or.inl ⟨by kernel_rfl, ?h12⟩) (by assumption) ?r12
  case h12 => (intro w hSw; (try dsimp only at hSw); go_simp; try with_reducible rfl)
  try simp only [Act.put, List.setIfInBounds_toArray, List.set_cons_zero, List.set_cons_succ]
  refine wpAnyH_take (i := 15) (oi := { dst := some 6, op := Go.Op.assign (Go.Operand.tmp 43), type := 4, pos := "law.go:42", after := #[{ on := 14, ground := Go.Ground.data }, { on := 5, ground := Go.Ground.chain }, { on := 0, ground := Go.Ground.phase }, { on := 1, ground := Go.Ground.phase }, { on := 2, ground := Go.Ground.phase }, { on := 3, ground := Go.Ground.phase }, { on := 4, ground := Go.Ground.phase }, { on := 5, ground := Go.Ground.phase }, { on := 6, ground := Go.Ground.phase }, { on := 7, ground := Go.Ground.phase }, { on := 8, ground := Go.Ground.phase }, { on := 9, ground := Go.Ground.phase }, { on := 10, ground := Go.Ground.phase }, { on := 11, ground := Go.Ground.phase }, { on := 12, ground := Go.Ground.phase }, { on := 13, ground := Go.Ground.phase }, { on := 14, ground := Go.Ground.phase }], guard := none }) (v := ?v13) rfl (by kernel_rfl) (by kernel_rfl) (by kernel_rfl) (fun _ _ _ h => h) (Or.inl ⟨by kernel_rfl, ?h13⟩) (by assumption) ?r13
  case h13 => (intro w hSw; (try dsimp only at hSw); go_simp; try with_reducible rfl)
  try simp only [Act.put, List.setIfInBounds_toArray, List.set_cons_zero, List.set_cons_succ]
  refine wpAnyH_done (by kernel_rfl) ?_ _
  go_wp2
  go_ret
  exact ⟨ret_bool (by exact heq'.out), hB.trans (hb4'.mono hB.size)⟩
end Go.Proofs.Ytnpgkpljmifjdaa
