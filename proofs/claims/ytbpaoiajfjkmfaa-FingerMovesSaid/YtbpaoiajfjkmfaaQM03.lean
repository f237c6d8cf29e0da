/-
  Words and walks under the law's proof.
-/
import Derived.Test.YtbpaoiajfjkmfaaRows
import Derived.IntWalk
import Derived.Maps.OwnSet
import Derived.Test.YtbpaoiajfjkmfaaQM01
import Derived.Test.YtbpaoiajfjkmfaaQM02
namespace Go.Proofs.Ytbpaoiajfjkmfaa
open Go.RowKit
set_option linter.unusedVariables false
set_option linter.unusedSimpArgs false
theorem nums_set (k : IntKind) (l : List Int) (i : Nat) (x : Int) : (nums k l).toArray.setIfInBounds i (.int k x) = (nums k (l.set i x)).toArray := by simp [nums]
theorem nums_getD {k : IntKind} {l : List Int} {i : Nat} (h : i < l.length) : (nums k l).toArray[i]? = some (.int k (l.getD i 0)) := by simp [nums, List.getD, h]
theorem frk1_any (Bo go n c i : Nat) (r : Int) (s : ByteArray) (out : List Int) (W : World) (hbox : W.cell? ⟨Bo, 0, none⟩ = some (.slice (some ⟨go, 0, none⟩) n c)) (hrow : Holds W go 3 (nums .i64 out).toArray) (hn : n = out.length) (hm : n ≤ 9223372036854775807) (hi : i < n) :
    Calls Try.prog 26 #[.int .i64 i, .int .i64 r, .string s, .pointer (some ⟨Bo, 0, none⟩)] W fun e w' => e = .returned (.tuple #[]) ∧ BelowE [go] W.heap.size W w' ∧ Holds w' go 3 (nums .i64 (out.set i r)).toArray := by
  have q0 := (hrow.cell i).trans (nums_getD (by omega))
  have r0 := hrow.free i
  have hs := hrow.set i (.int .i64 r)
  rw [nums_set] at hs
  have hs' := Lib.hid hs
  have hii : (i : Int) < (n : Int) := by omega
  have hb := Lib.hid ((BelowE.refl [go] W.heap.size W).setIn (p := ⟨go, i, none⟩) (by simp) (.int .i64 r))
  clear hs hrow hn
  generalize out.getD i 0 = ov at *
  go_enter Try.func26, Try.ntmps26
  go_wp2
  go_end0
  exact ⟨rfl, hb.out, hs'.out⟩
set_option maxRecDepth 100000 in
set_option maxHeartbeats 2000000 in
theorem fof1_any (Bo go n c i : Nat) (r : Nat) (k : List Int) (hbk : Bs k) (hkl : k.length ≤ 100000) (out : List Int) (W : World) (hbox : W.cell? ⟨Bo, 0, none⟩ = some (.slice (some ⟨go, 0, none⟩) n c)) (hBo : Bo < W.heap.size) (hne : Bo ≠ go) (hrow : Holds W go 29 (nums .u64 out).toArray) (hn : n = out.length) (hm : n ≤ 9223372036854775807) (hi : i < n) (hr : r ≤ 9223372036854775807) :
    Calls Try.prog 27 #[.int .i64 i, .int .i64 r, .string (strOfNums k), .pointer (some ⟨Bo, 0, none⟩)] W fun e w' => e = .returned (.tuple #[]) ∧ BelowE [go] W.heap.size W w' ∧ Holds w' go 29 (nums .u64 (out.set i (oneK k r))).toArray := by
  have yb : ∀ V, BelowE [go] W.heap.size W V → V.cell? ⟨Bo, 0, none⟩ = some (.slice (some ⟨go, 0, none⟩) n c) := fun V hV => (hV.cell (p := ⟨Bo, 0, none⟩) hBo (by simpa using hne)).trans hbox
  have q0 : Hid ((nums .u64 out).toArray[i]? = some (.int .u64 (out.getD i 0))) := Lib.hid (nums_getD (by omega))
  have hset : Hid (∀ x, (nums .u64 out).toArray.setIfInBounds i (.int .u64 x) = (nums .u64 (out.set i x)).toArray) := Lib.hid (fun x => nums_set .u64 out i x)
  have hii : (i : Int) < (n : Int) := by omega
  have hcv := Lib.hid (fun W : World => run_bytes_sees (P := Try.prog) W 9 46 5 (strOfNums k) Try.underlying9 Try.underlying46 Try.underlying5)
  have hsk : (strOfNums k).size = k.length := strOfNums_size _
  rw [codes_str hbk, hsk] at hcv
  clear hsk
  have qof := Lib.hid (fun (A : Option Addr) (C : Nat) (V : World) (hs : Sees .u8 V.heap.size V A k) => fof_any k hbk hkl A C (r : Int) (by simp [Lit.wf, IntKind.min, IntKind.max, IntKind.signed, IntKind.bits]; omega) _ V hs)
  have er : (max (r : Int) 0).toNat = r := by omega
  rw [er] at qof
  have hgo := hrow.lt
  have hall : Holds W.drew go 29 (nums .u64 out).toArray := hrow.drew
  have hsz : BelowE [go] W.heap.size W W.drew := (BelowE.refl _ _ _).drew
  clear hbox hrow hn hbk hkl hr er hne
  generalize oneK k r = V0 at *
  generalize strOfNums k = sk at *
  generalize (nums .u64 out).toArray = oc at *
  generalize out.getD i 0 = ov at *
  go_enter Try.func27, Try.ntmps27
  go_wp2
  refine wp_drawn_on (fun V => BelowE [go] W.heap.size W V) (by kernel_rfl) (hsz) (fun hHeld => ?_)
  generalize W.drew = vd at hsz hall hHeld ⊢
  refine wpAnyH_take (i := 0) (oi := { dst := some 7, op := Go.Op.load 36 (Go.Operand.tmp 3), type := 36, pos := "finger.go:36", after := #[], guard := none }) (v := ?v1) rfl (by kernel_rfl) (by kernel_rfl) (by kernel_rfl) (fun _ _ _ h => h) (Or.inl ⟨by kernel_rfl, ?h1⟩) (by assumption) ?r1
  case h1 => (intro w hSw; (try dsimp only at hSw); go_simp; try with_reducible rfl)
  try simp only [Act.put, List.setIfInBounds_toArray, List.set_cons_zero, List.set_cons_succ]
  refine wpAnyH_take (i := 1) (oi := { dst := some 8, op := Go.Op.move (Go.Operand.tmp 0), type := 3, pos := "finger.go:36", after := #[], guard := none }) (v := ?v2) rfl (by kernel_rfl) (by kernel_rfl) (by kernel_rfl) (fun _ _ _ h => h) (Or.inl ⟨by kernel_rfl, ?h2⟩) (by assumption) ?r2
  case h2 => (intro w hSw; (try dsimp only at hSw); go_simp; try with_reducible rfl)
  try simp only [Act.put, List.setIfInBounds_toArray, List.set_cons_zero, List.set_cons_succ]
  refine wpAnyH_take (i := 2) (oi := { dst := some 9, op := Go.Op.move (Go.Operand.tmp 2), type := 9, pos := "finger.go:36", after := #[], guard := none }) (v := ?v3) rfl (by kernel_rfl) (by kernel_rfl) (by kernel_rfl) (fun _ _ _ h => h) (Or.inl ⟨by kernel_rfl, ?h3⟩) (by assumption) ?r3
  case h3 => (intro w hSw; (try dsimp only at hSw); go_simp; try with_reducible rfl)
  try simp only [Act.put, List.setIfInBounds_toArray, List.set_cons_zero, List.set_cons_succ]
  refine wpAnyH_take (i := 4) (oi := { dst := some 11, op := Go.Op.move (Go.Operand.tmp 1), type := 3, pos := "finger.go:36", after := #[], guard := none }) (v := ?v4) rfl (by kernel_rfl) (by kernel_rfl) (by kernel_rfl) (fun _ _ _ h => h) (Or.inl ⟨by kernel_rfl, ?h4⟩) (by assumption) ?r4
  case h4 => (intro w hSw; (try dsimp only at hSw); go_simp; try with_reducible rfl)
  try simp only [Act.put, List.setIfInBounds_toArray, List.set_cons_zero, List.set_cons_succ]
  refine wpAnyH_ready (rs := [3]) (by kernel_rfl) (by simp) ?_
  refine AllReadyH.cons (o := { dst := some 10, op := Go.Op.convert 9 46 (Go.Operand.tmp 9), type := 46, pos := "finger.go:36", after := #[{ on := 2, ground := Go.Ground.data }], guard := none }) rfl (fun K hK => ?_) AllReadyH.nil
  obtain ⟨c3, w3, hrun3, -, hs3, hb3, -⟩ := hcv.out vd
  go_simp
  clear hrun3
  refine hK.out _ _ (hHeld.trans (.of (hb3.mono hHeld.size))) (fun hHeld => ?_)
  clear hK K
  try simp only [Act.put, List.setIfInBounds_toArray, List.set_cons_zero, List.set_cons_succ]
  refine wpAnyH_ready (rs := [5]) (by kernel_rfl) (by simp) ?_
  refine AllReadyH.cons (o := { dst := some 12, op := Go.Op.call { callee := Go.Callee.value (Go.Operand.func 21), args := #[Go.Operand.tmp 10, Go.Operand.tmp 11], argTypes := #[46, 3] }, type := 29, pos := "finger.go:36", after := #[{ on := 3, ground := Go.Ground.data }, { on := 4, ground := Go.Ground.data }], guard := none }) rfl (fun K hK => ?_) AllReadyH.nil
  go_simp
  with_reducible refine (qof.out _ _ _ hs3).mono ?_
  rintro e w5 ⟨rfl, b5⟩
  go_simp
  refine hK.out _ _ (hHeld.trans (.of (b5.mono hHeld.size))) (fun hHeld => ?_)
  clear hK K
  try simp only [Act.put, List.setIfInBounds_toArray, List.set_cons_zero, List.set_cons_succ]
  refine wpAnyH_take (i := 6) (oi := { dst := some 13, op := Go.Op.indexAddr 36 (Go.Operand.tmp 7) (Go.Operand.tmp 8), type := 0, pos := "finger.go:36", after := #[{ on := 0, ground := Go.Ground.data }, { on := 1, ground := Go.Ground.data }, { on := 0, ground := Go.Ground.phase }, { on := 1, ground := Go.Ground.phase }, { on := 2, ground := Go.Ground.phase }, { on := 3, ground := Go.Ground.phase }, { on := 4, ground := Go.Ground.phase }, { on := 5, ground := Go.Ground.phase }], guard := none }) (v := ?v5) rfl (by kernel_rfl) (by kernel_rfl) (by kernel_rfl) (fun _ _ _ h => h) (Or.inl ⟨by kernel_rfl, ?h5⟩) (by assumption) ?r5
  case h5 => (intro w hSw; (try dsimp only at hSw); go_simp; try with_reducible rfl)
  try simp only [Act.put, List.setIfInBounds_toArray, List.set_cons_zero, List.set_cons_succ]
  refine wpAnyH_ready (rs := [7]) (by kernel_rfl) (by simp) ?_
  refine AllReadyH.cons (o := { dst := none, op := Go.Op.store 29 (Go.Operand.tmp 13) (Go.Operand.tmp 12), type := 0, pos := "finger.go:36", after := #[{ on := 6, ground := Go.Ground.data }, { on := 5, ground := Go.Ground.data }, { on := 5, ground := Go.Ground.chain }, { on := 0, ground := Go.Ground.phase }, { on := 1, ground := Go.Ground.phase }, { on := 2, ground := Go.Ground.phase }, { on := 3, ground := Go.Ground.phase }, { on := 4, ground := Go.Ground.phase }, { on := 5, ground := Go.Ground.phase }], guard := none }) rfl (fun K hK => ?_) AllReadyH.nil
  have hz := (hall.below hb3 hall.lt).below b5 (hall.below hb3 hall.lt).lt
  have z0 := (hz.cell i).trans q0.out
  have z1 := hz.free i
  go_simp
  clear z0 z1
  refine hK.out _ _ (hHeld.setIn (p := ⟨go, i, none⟩) (by simp) _) (fun hHeld => ?_)
  clear hK K
  try simp only [Act.put, List.setIfInBounds_toArray, List.set_cons_zero, List.set_cons_succ]
  refine wpAnyH_done (by kernel_rfl) ?_ _
  have hf := Lib.hid hHeld
  have hs := hz.set i (.int .u64 V0)
  rw [hset.out] at hs
  have hs' := Lib.hid hs
  clear hHeld hz hs hb3 b5 hs3 hall yb
  go_wp2
  go_end0
  exact ⟨rfl, hf.out, hs'.out⟩
end Go.Proofs.Ytbpaoiajfjkmfaa
namespace Go.Proofs.Ytbpaoiajfjkmfaa
open Go.RowKit Go.WideMaps Go.Maps
set_option linter.unusedVariables false
theorem msi_law : Keyed Try.prog 9 := string_keyed Try.underlying9
theorem msi_zero (w : World) : (zeroValue 3).run Try.prog w = .ok (.int .i64 0) w := by kernel_rfl
def CntM (w : World) (M n : Nat) (cnt : ByteArray → Nat) : Prop :=
  ∃ D : DataW Unit, w.ownsMap Try.prog 9 (plainElem Try.prog 3) M n D ∧ ∀ s : ByteArray, s.size ≤ maxLen → D.atKey (.string s.data.toList) (.lit (.int .i64 0)) = .lit (.int .i64 (cnt s : Int))
theorem CntM.keep {w w' : World} {M n : Nat} {cnt : ByteArray → Nat} (h : CntM w M n cnt) (hb : w'.heap[M]? = w.heap[M]?) : CntM w' M n cnt := by
  obtain ⟨D, ⟨es, clock, h1, h2⟩, h3⟩ := h
  exact ⟨D, ⟨es, clock, hb.trans h1, h2⟩, h3⟩
theorem CntM.lt {w : World} {M n : Nat} {cnt : ByteArray → Nat} (h : CntM w M n cnt) : M < w.heap.size := by
  obtain ⟨D, h1, _⟩ := h
  exact h1.lt
theorem CntM.belowE {w w' : World} {M n : Nat} {cnt : ByteArray → Nat} {X : List Nat} (h : CntM w M n cnt) (hb : BelowE X w.heap.size w w') (hX : M ∉ X) : CntM w' M n cnt := h.keep (hb.block M h.lt hX)
theorem CntM.below {w w' : World} {M n : Nat} {cnt : ByteArray → Nat} (h : CntM w M n cnt) (hb : Below w.heap.size w w') : CntM w' M n cnt := h.keep (hb.block M h.lt)
theorem CntM.new (w : World) : CntM (w.alloc (.map #[] 0)) w.heap.size 0 (fun _ => 0) := ⟨_, World.ownsMap_made w _ _ _, fun s _ => rfl⟩
theorem CntM.look {w : World} {M n : Nat} {cnt : ByteArray → Nat} (h : CntM w M n cnt) (s : ByteArray) (hs : s.size ≤ maxLen) : (Instr.lookup 62 (.map (some M)) (.string s) false).run Try.prog w = .ok (.int .i64 (cnt s : Int)) w := by
  obtain ⟨D, h1, h2⟩ := h
  obtain ⟨c, hrun, hat, _⟩ := h1.lookup_int msi_law Try.underlying62 Try.underlying3 (msi_zero _) (keyOf_string_mk Try.underlying9 hs)
  rw [h2 s hs] at hat
  simp only [DataW.lit.injEq, Lit.int.injEq, true_and] at hat
  rw [hat]
  exact hrun
theorem data_inj {s t : ByteArray} (h : s.data.toList = t.data.toList) : s = t := ByteArray.ext (Array.ext' h)
theorem CntM.add {w : World} {M n : Nat} {cnt : ByteArray → Nat} (h : CntM w M n cnt) (s : ByteArray) (hs : s.size ≤ maxLen) (hn : n < maxLen) (hc : (cnt s : Int) < 9223372036854775807) :
    ∃ w', (Instr.mapUpdate 62 (.map (some M)) (.string s) (.int .i64 ((cnt s : Int) + 1))).run Try.prog w = .ok () w' ∧ CntM w' M (n + 1) (fun x => if x = s then cnt s + 1 else cnt x) ∧ BelowE [M] w.heap.size w w' := by
  obtain ⟨D, h1, h2⟩ := h
  have hD := h1.isMap
  obtain ⟨w', hrun, hown, hg⟩ := h1.update (key := .string s) (val := .int .i64 ((cnt s : Int) + 1)) (ps := []) msi_law Try.underlying62 hn (keyOf_string_mk Try.underlying9 hs) (plainElem_int (q := .i64) (a := (cnt s : Int) + 1) Try.underlying3 (by simp [Lit.wf, IntKind.min, IntKind.max, IntKind.signed, IntKind.bits]; omega))
  refine ⟨w', hrun, ⟨_, hown, fun t ht => ?_⟩, ⟨hg.os, hg.tape, hg.output, hg.size, fun k hk hx => hg.block k hk (by intro e; injection e with e; exact hx (by simp [e]))⟩⟩
  show _ = DataW.lit (.int .i64 ((if t = s then cnt s + 1 else cnt t : Nat) : Int))
  by_cases e : t = s
  · subst e
    rw [if_pos rfl, atKey_put_same hD (by exact trivial)]
    rfl
  · rw [if_neg e, atKey_put_other (by intro h; injection h with h; exact e (data_inj h)), h2 t ht]
end Go.Proofs.Ytbpaoiajfjkmfaa
namespace Go.Proofs.Ytbpaoiajfjkmfaa
set_option linter.unusedVariables false
set_option linter.unusedSimpArgs false
def upF (n k : Nat) : List Int := (List.range n).map fun i => if i < k then (i : Int) else 0
theorem upF_len (n k : Nat) : (upF n k).length = n := by simp [upF]
theorem upF_zero (n : Nat) : upF n 0 = List.replicate n 0 := by
  apply List.ext_getElem
  · simp [upF]
  · intro i a b; simp [upF]
theorem upF_set (n k : Nat) : (upF n k).set k (k : Int) = upF n (k + 1) := by
  apply List.ext_getElem
  · simp [upF]
  · intro i a b
    rw [List.getElem_set]
    simp only [upF, List.getElem_map, List.getElem_range]
    by_cases e : k = i
    · subst e; simp
    · rw [if_neg e]
      by_cases h : i < k
      · rw [if_pos h, if_pos (by omega)]
      · rw [if_neg h, if_neg (by omega)]
theorem upF_at {n j : Nat} (h : j < n) : (upF n n).getD j 0 = (j : Int) := by simp [upF, List.getD, h]
def outF (V : Nat → Int) (S : List Nat) (n t : Nat) : List Int := (List.range n).map fun i => if i ∈ S.take t then V i else 0
theorem outF_len (V : Nat → Int) (S : List Nat) (n t : Nat) : (outF V S n t).length = n := by simp [outF]
theorem outF_zero (V : Nat → Int) (S : List Nat) (n : Nat) : outF V S n 0 = List.replicate n 0 := by
  apply List.ext_getElem
  · simp [outF]
  · intro i a b; simp [outF]
theorem outF_set (V : Nat → Int) (S : List Nat) (n t : Nat) (ht : t < S.length) : (outF V S n t).set (S.getD t 0) (V (S.getD t 0)) = outF V S n (t + 1) := by
  have e : S.take (t + 1) = S.take t ++ [S.getD t 0] := by rw [List.take_add_one]; simp [List.getD, ht]
  apply List.ext_getElem
  · simp [outF]
  · intro i a b
    rw [List.getElem_set]
    simp only [outF, List.getElem_map, List.getElem_range, e, List.mem_append, List.mem_singleton]
    by_cases h : S.getD t 0 = i
    · rw [if_pos h, if_pos (.inr h.symm), h]
    · rw [if_neg h]
      by_cases h2 : i ∈ S.take t
      · rw [if_pos h2, if_pos (.inl h2)]
      · rw [if_neg h2, if_neg (by rintro (h3 | h3); exact h2 h3; exact h h3.symm)]
theorem outF_all (V : Nat → Int) (S : List Nat) (n : Nat) (hl : S.length ≤ n) (h : ∀ i, i < n → i ∈ S) : outF V S n n = (List.range n).map V := by
  unfold outF
  apply List.map_congr_left
  intro i hi
  rw [List.take_of_length_le hl, if_pos (h i (by simpa using hi))]
def cntF (l : List AlD) (S : List Nat) (t : Nat) (s : ByteArray) : Nat := (S.take t).countP fun j => decide (strOfNums (keyA (l.getD j al0)) = s)
theorem cntF_zero (l : List AlD) (S : List Nat) : cntF l S 0 = fun _ => 0 := by funext s; simp [cntF]
theorem cntF_step (l : List AlD) (S : List Nat) (t : Nat) (ht : t < S.length) : (fun x => if x = strOfNums (keyA (l.getD (S.getD t 0) al0)) then cntF l S t (strOfNums (keyA (l.getD (S.getD t 0) al0))) + 1 else cntF l S t x) = cntF l S (t + 1) := by
  have e : S.take (t + 1) = S.take t ++ [S.getD t 0] := by rw [List.take_add_one]; simp [List.getD, ht]
  funext x
  unfold cntF
  rw [e, List.countP_append]
  by_cases h : x = strOfNums (keyA (l.getD (S.getD t 0) al0))
  · rw [if_pos h, ← h]
    rw [List.countP_cons, List.countP_nil, decide_eq_true h.symm]
    simp
  · rw [if_neg h, List.countP_cons, List.countP_nil, decide_eq_false (fun h2 => h h2.symm)]
    simp
theorem keyA_bs0 (a : AlD) : Bs (keyA a) := by
  unfold keyA keyL
  intro c hc
  simp only [List.mem_append] at hc
  rcases hc with hc | (hc | hc) | hc | hc
  · exact leb_bytes _ c hc
  · exact leb_bytes _ c hc
  · exact codes_bs a.fn c hc
  · exact leb_bytes _ c hc
  · exact normS_bs (codes_bs _) c hc
theorem cntF_rank (l : List AlD) {t : Nat} (ht : t < l.length) : cntF l (placesF l al0 l.length) t (strOfNums (keyA (l.getD ((placesF l al0 l.length).getD t 0) al0))) = rankA l ((placesF l al0 l.length).getD t 0) := by
  unfold rankA
  rw [places_rank keyA l al0 ht]
  unfold cntF
  apply List.countP_congr
  intro j _
  simp only [decide_eq_true_eq]
  exact ⟨fun h => strOfNums_inj (keyA_bs0 _) (keyA_bs0 _) h, fun h => by rw [h]⟩
end Go.Proofs.Ytbpaoiajfjkmfaa
namespace Go.Proofs.Ytbpaoiajfjkmfaa
open Go.RowKit
set_option linter.unusedVariables false
set_option linter.unusedSimpArgs false
theorem infoInt' : (Try.prog.info? 3).map (fun i => (i.zero, i.size, i.bytes)) = some (some (.int .i64 0), 1, 8) := by kernel_rfl
theorem infoU64 : (Try.prog.info? 29).map (fun i => (i.zero, i.size, i.bytes)) = some (some (.int .u64 0), 1, 8) := by kernel_rfl
theorem mk_ints (n : Nat) (hn : n ≤ 1000000) (W : World) : (Instr.makeSlice 27 (.int .i64 n) (.int .i64 n)).run Try.prog W = .ok (.slice (some ⟨W.heap.size, 0, none⟩) n n) (W.alloc (.cells (nums .i64 (List.replicate n 0)).toArray 3)) := by
  obtain ⟨i0, hi, hz0, hz1, hz2⟩ := info_parts infoInt'
  have h := run_make (P := Try.prog) W 27 3 i0 (.int .i64 0) Try.underlying27 hi hz0 .i64 .i64 (n : Int) (n : Int) (by omega) (by omega) (by rw [hz2]; omega) (by omega)
  rw [hz1] at h
  simp only [Int.toNat_natCast] at h
  rw [h, ← made_zero .i64 n]
theorem mk_u64s (n : Nat) (hn : n ≤ 1000000) (W : World) : (Instr.makeSlice 36 (.int .i64 n) (.int .i64 n)).run Try.prog W = .ok (.slice (some ⟨W.heap.size, 0, none⟩) n n) (W.alloc (.cells (nums .u64 (List.replicate n 0)).toArray 29)) := by
  obtain ⟨i0, hi, hz0, hz1, hz2⟩ := info_parts infoU64
  have h := run_make (P := Try.prog) W 36 29 i0 (.int .u64 0) Try.underlying36 hi hz0 .i64 .i64 (n : Int) (n : Int) (by omega) (by omega) (by rw [hz2]; omega) (by omega)
  rw [hz1] at h
  simp only [Int.toNat_natCast] at h
  rw [h, ← made_zero .u64 n]
set_option maxRecDepth 100000 in
set_option maxHeartbeats 4000000 in
theorem feach_rk (l : List AlD) (a : Option Addr) (n c : Nat) (w0 w : World) (h0 : RO alC w0 a n c l) (hbw : Below w0.heap.size w0 w) (hW : ∀ s ∈ l, alW s) (hS : ∀ s ∈ l, smallA s) (hn : n ≤ 100) (Bo go co : Nat) (hbox : w.cell? ⟨Bo, 0, none⟩ = some (.slice (some ⟨go, 0, none⟩) n co)) (hBo : Bo < w.heap.size) (hne : Bo ≠ go) (hgo0 : w0.heap.size ≤ go) (hrow : Holds w go 3 (nums .i64 (List.replicate n 0)).toArray) :
    Calls Try.prog 25 #[.slice a n c, .func (.func 26) #[] #[.pointer (some ⟨Bo, 0, none⟩)]] w fun e w' => e = .returned (.tuple #[]) ∧ BelowE [go] w.heap.size w w' ∧ Holds w' go 3 (nums .i64 ((List.range n).map (fun i => (rankA l i : Int)))).toArray := by
  have hmk := mk_ints n (by omega)
  have hmm := @run_makeMap Try.prog
  have hlen := h0.len
  have hgo := hrow.lt
  have hsl : (placesF l al0 n).length = n := places_len l al0 n
  have hrk : ∀ t, t < n → cntF l (placesF l al0 n) t (strOfNums (keyA (l.getD ((placesF l al0 n).getD t 0) al0))) = rankA l ((placesF l al0 n).getD t 0) := fun t ht => by
    have q := cntF_rank l (t := t) (by omega)
    rw [← hlen] at q
    exact q
  have hrk' := Lib.hid hrk
  have hrl := Lib.hid (fun i => rank_le l i)
  obtain ⟨u2, hu2⟩ : ∃ u2, u2 = (w.alloc (.cells #[.slice a n c] 22)).alloc (.cells (nums .i64 (List.replicate n 0)).toArray 3) := ⟨_, rfl⟩
  have b2 : Below w.heap.size w u2 := by rw [hu2]; exact box2_below _ _ _ _ _
  have s2 : u2.heap.size = w.heap.size + 2 := by rw [hu2]; simp
  have Z1 : Hid (Holds u2 w.heap.size 22 #[.slice a n c]) := Lib.hid (by rw [hu2]; exact (Holds.new w _ _).alloc _)
  have Z2 : Hid (Holds u2 (w.heap.size + 1) 3 (nums .i64 (upF n 0)).toArray) := Lib.hid (by rw [hu2, upF_zero]; have q := Holds.new (w.alloc (.cells #[.slice a n c] 22)) 3 (nums .i64 (List.replicate n 0)).toArray; simpa using q)
  have ZO : Hid (Holds u2 go 3 (nums .i64 (List.replicate n 0)).toArray) := Lib.hid (hrow.below b2 hgo)
  have yo : Hid (u2.cell? ⟨Bo, 0, none⟩ = some (.slice (some ⟨go, 0, none⟩) n co)) := Lib.hid ((b2.cell (p := ⟨Bo, 0, none⟩) hBo).trans hbox)
  have hb2 : Hid (Below w0.heap.size w0 u2) := Lib.hid (hbw.trans (b2.mono hbw.size))
  have hgw : w0.heap.size ≤ w.heap.size := hbw.size
  have hu2' := Lib.hid hu2
  have b2' := Lib.hid b2
  have hm : (n : Int) ≤ 9223372036854775807 := by omega
  have hni : (n : Int) ≤ 100 := by omega
  have hRO := Lib.hid h0
  have hW' : Hid (∀ i, i < n → alW (l.getD i al0) ∧ smallA (l.getD i al0)) := Lib.hid (fun i hi => by
    have q : l.getD i al0 ∈ l := (by rw [hlen] at hi; simp [List.getD, hi])
    exact ⟨hW _ q, hS _ q⟩)
  have hlen' := Lib.hid hlen
  have hsl' := Lib.hid hsl
  have s2' := Lib.hid s2
  clear hu2 b2 h0 hbw hrow hbox hW hS hlen hsl s2 hrk
  go_enter Try.func25, Try.ntmps25
  go_wp2
  rw [← hu2'.out]
  clear hu2' hmk
  go_loopw [15] (fun x wr => ∃ k : Nat, k ≤ n ∧ x = .int .i64 k ∧ Hid (Holds wr (w.heap.size + 1) 3 (nums .i64 (upF n k)).toArray) ∧ Hid (BelowE [w.heap.size + 1] u2.heap.size u2 wr)) (fun x _ => n - (intOf x).toNat)
  case atStart => exact ⟨0, Nat.zero_le _, rfl, Z2, Lib.hid (BelowE.refl _ _ _)⟩
  case round =>
    obtain ⟨k, hk, rfl, hH, hB⟩ := hrel
    by_cases hlt : k < n
    · have hki : (k : Int) < (n : Int) := by omega
      have x0 := (hH.out.cell k).trans (nums_getD (by rw [upF_len]; exact hlt))
      have x1 := hH.out.free k
      have hs := hH.out.set k (.int .i64 (k : Int))
      rw [nums_set, upF_set] at hs
      have hs' := Lib.hid hs
      have hB' := Lib.hid (hB.out.setIn (p := ⟨w.heap.size + 1, k, none⟩) (by simp) (.int .i64 (k : Int)))
      clear hs hH hB
      generalize (upF n k).getD k 0 = ov at *
      go_wp2
      go_roundw
      case rel => exact ⟨k + 1, by omega, by go_num, hs', hB'⟩
      case measure => simp [intOf]; omega
    · obtain rfl : k = n := by omega
      have hki : ¬ (k : Int) < (k : Int) := by omega
      generalize wr = u3 at *
      have b3 : Hid (Below w0.heap.size w0 u3) := Lib.hid (hb2.out.trans ((hB.out.mono (B' := w0.heap.size) (by have := s2'.out; omega)).toBelow (by intro x hx; simp at hx; omega)))
      have Y1 : Hid (Holds u3 w.heap.size 22 #[.slice a k c]) := Lib.hid (Z1.out.belowE hB.out (by have := s2'.out; omega) (by simp))
      have YO : Hid (Holds u3 go 3 (nums .i64 (List.replicate k 0)).toArray) := Lib.hid (ZO.out.belowE hB.out (by have := s2'.out; omega) (by simp; omega))
      have yo3 : Hid (u3.cell? ⟨Bo, 0, none⟩ = some (.slice (some ⟨go, 0, none⟩) k co)) := Lib.hid ((hB.out.cell (p := ⟨Bo, 0, none⟩) (by have := s2'.out; show Bo < _; omega) (by simp; omega)).trans yo.out)
      have s3 : u2.heap.size ≤ u3.heap.size := hB.out.size
      have bw3 : Hid (Below w.heap.size w u3) := Lib.hid (b2'.out.trans ((hB.out.mono (B' := w.heap.size) (by have := s2'.out; omega)).toBelow (by intro x hx; simp at hx; omega)))
      have qs := Lib.hid (fsort_any l a k c (w.heap.size + 1) w.heap.size w0 u3 hRO.out b3.out (by omega) (by have := s2'.out; omega) (by have := s2'.out; omega) (by omega) (Y1.out.cell 0) (fun j hj => ⟨by rw [hH.out.cell j, nums_getD (by rw [upF_len]; exact hj), upF_at hj], hH.out.free j⟩) (by omega))
      have hs3 := Lib.hid s3
      clear s3 hH hB Z1 Z2 ZO yo hb2 b2'
      go_wp2_with fail
      with_reducible refine qs.out.mono ?_
      rintro e u4 ⟨rfl, e4, c4⟩
      have E4 := Lib.hid e4
      have C4 := Lib.hid c4
      clear e4 c4 qs hki
      obtain ⟨u5, hu5⟩ : ∃ u5, u5 = u4.alloc (.map #[] 0) := ⟨_, rfl⟩
      have M5 : Hid (CntM u5 u4.heap.size 0 (cntF l (placesF l al0 k) 0)) := Lib.hid (by rw [hu5, cntF_zero]; exact CntM.new u4)
      have b5 : Below u4.heap.size u4 u5 := by rw [hu5]; exact (Below.refl _ _).alloc (Nat.le_refl _) _
      have E5 : Hid (BelowE [w.heap.size + 1] u3.heap.size u3 u5) := Lib.hid (E4.out.trans (.of (b5.mono E4.out.size)))
      have s5 : Hid (u3.heap.size ≤ u4.heap.size ∧ u5.heap.size = u4.heap.size + 1) := Lib.hid ⟨E4.out.size, by rw [hu5]; simp⟩
      have X1 : Hid (Holds u5 w.heap.size 22 #[.slice a k c]) := Lib.hid (Y1.out.belowE E5.out Y1.out.lt (by simp))
      have XO : Hid (Holds u5 go 3 (nums .i64 (outF (fun i => (rankA l i : Int)) (placesF l al0 k) k 0)).toArray) := Lib.hid (by rw [outF_zero]; exact YO.out.belowE E5.out YO.out.lt (by simp; omega))
      have yo5 : Hid (u5.cell? ⟨Bo, 0, none⟩ = some (.slice (some ⟨go, 0, none⟩) k co)) := Lib.hid ((E5.out.cell (p := ⟨Bo, 0, none⟩) (by have := s2'.out; have := hs3.out; show Bo < _; omega) (by simp; omega)).trans yo3.out)
      have C5 : Hid (∀ j, j < k → u5.cell? ⟨w.heap.size + 1, j, none⟩ = some (.int .i64 ((placesF l al0 k).getD j 0 : Nat))) := Lib.hid (fun j hj => (b5.cell (p := ⟨w.heap.size + 1, j, none⟩) (by have := s2'.out; have := hs3.out; have := s5.out; show w.heap.size + 1 < _; omega)).trans (C4.out j hj))
      have b50 : Hid (Below w0.heap.size w0 u5) := Lib.hid (b3.out.trans ((E5.out.mono (B' := w0.heap.size) (by have := s2'.out; have := hs3.out; omega)).toBelow (by intro x hx; simp at hx; omega)))
      have bw5 : Hid (Below w.heap.size w u5) := Lib.hid (bw3.out.trans ((E5.out.mono (B' := w.heap.size) (by have := s2'.out; have := hs3.out; omega)).toBelow (by intro x hx; simp at hx; omega)))
      have hgo5 : Hid (Bo < u4.heap.size ∧ go < u4.heap.size ∧ w.heap.size + 1 < u4.heap.size ∧ u5.heap.size = u4.heap.size + 1) := Lib.hid (by have := s2'.out; have := hs3.out; have := s5.out; exact ⟨by omega, by omega, by omega, this.2⟩)
      have hu5' := Lib.hid hu5
      clear hu5 b5 E4 C4 Y1 YO yo3 b3 bw3 E5 s5 hs3 s2'
      go_wp2
      rw [← hu5'.out]
      clear hu5' hmm
      generalize u4.heap.size = M at *
      go_loopw [29] (fun x wr => ∃ t : Nat, t ≤ k ∧ x = .int .i64 t ∧ Hid (CntM wr M t (cntF l (placesF l al0 k) t)) ∧ Hid (Holds wr go 3 (nums .i64 (outF (fun i => (rankA l i : Int)) (placesF l al0 k) k t)).toArray) ∧ Hid (BelowE [go, M] u5.heap.size u5 wr)) (fun x _ => k - (intOf x).toNat)
      case atStart => exact ⟨0, Nat.zero_le _, rfl, M5, XO, Lib.hid (BelowE.refl _ _ _)⟩
      case round =>
        obtain ⟨t, ht, rfl, hM, hO, hE⟩ := hrel
        clear M5 XO
        generalize wr = u6 at *
        by_cases htk : t < k
        · have hti : (t : Int) < (k : Int) := by omega
          have xg := (hE.out.cell (p := ⟨w.heap.size + 1, t, none⟩) (by have := hgo5.out; show w.heap.size + 1 < _; omega) (by have := hgo5.out; simp; omega)).trans (C5.out t htk)
          have hil := places_lt l al0 k htk
          have hX := X1.out.belowE hE.out X1.out.lt (by have := hgo5.out; simp; omega)
          have xb := hX.cell 0
          simp at xb
          have hR6 := hRO.out.below (b50.out.trans ((hE.out.mono b50.out.size).toBelow (by intro x hx; have := hgo5.out; simp at hx; omega)))
          have hbo := Lib.hid ((hE.out.cell (p := ⟨Bo, 0, none⟩) (by have := hgo5.out; show Bo < _; omega) (by have := hgo5.out; simp; omega)).trans yo5.out)
          have hcr := hrk'.out t htk
          have hlast := Lib.hid (outF_set (fun i => (rankA l i : Int)) (placesF l al0 k) k t (by rw [hsl'.out]; exact htk))
          have hstep := Lib.hid (cntF_step l (placesF l al0 k) t (by rw [hsl'.out]; exact htk))
          have hrb := hrl.out ((placesF l al0 k).getD t 0)
          rw [hcr] at hstep
          generalize (placesF l al0 k).getD t 0 = i at *
          have hii : (i : Int) < (k : Int) := by omega
          obtain ⟨b, off, rfl, hlb, y0, y1, y2, y3, y4, y5⟩ := al_at hR6 hil
          obtain ⟨⟨wk, -⟩, hsm⟩ := hW'.out i hil
          have qk := Lib.hid (fkey_any (l.getD i al0) wk hsm u6)
          have hkl := keyA_len (l.getD i al0) wk hsm
          have hsz : (strOfNums (keyA (l.getD i al0))).size ≤ 100000 := by rw [strOfNums_size]; exact hkl
          have hr100 : rankA l i ≤ 100 := by have := hlen'.out; omega
          have qsh := Lib.hid (fun (sK : ByteArray) (hK : sK = strOfNums (keyA (l.getD i al0))) (r : Nat) (hr : r ≤ 9223372036854775807) (W : World) (out : List Int) (hbox : W.cell? ⟨Bo, 0, none⟩ = some (.slice (some ⟨go, 0, none⟩) k co)) (hBo : Bo < W.heap.size) (hrow : Holds W go 3 (nums .i64 out).toArray) (hn : k = out.length) => (show Calls Try.prog 26 #[.int .i64 i, .int .i64 r, .string sK, .pointer (some ⟨Bo, 0, none⟩)] W fun e w' => e = .returned (.tuple #[]) ∧ BelowE [go] W.heap.size W w' ∧ Holds w' go 3 (nums .i64 (out.set i ((r : Int)))).toArray from by subst hK; exact frk1_any Bo go k co i (r : Int) _ out W hbox hrow hn (by omega) hil))
          have qrow : Hid (k = (outF (fun i => (rankA l i : Int)) (placesF l al0 k) k t).length) := Lib.hid (outF_len _ _ _ _).symm
          obtain ⟨sK, hsK⟩ : ∃ sK, sK = strOfNums (keyA (l.getD i al0)) := ⟨_, rfl⟩
          obtain ⟨r, hr⟩ : ∃ r, r = rankA l i := ⟨_, rfl⟩
          have hqsh := Lib.hid (qsh.out sK hsK r (by omega))
          rw [← hsK] at hcr hstep hsz
          rw [← hr] at hcr hstep hr100
          try dsimp only at hlast
          rw [← hr] at hlast
          have hcv := Lib.hid (fun (A : Option Addr) (C : Nat) (V : World) (s : Sees .u8 V.heap.size V A (keyA (l.getD i al0))) => conv_sees (P := Try.prog) 46 9 5 Try.underlying46 Try.underlying5 Try.underlying9 s _ C rfl)
          rw [← hsK] at hcv
          have hcr' := Lib.hid hcr
          clear hX hR6 hsm wk qsh hkl hrb hsK hr hcr
          generalize keyA (l.getD i al0) = KA at *
          generalize l.getD i al0 = AL at *
          generalize outF (fun i => (rankA l i : Int)) (placesF l al0 k) k t = OUT at *
          obtain ⟨ak, asv, af, afi, al, ax⟩ := AL
          dsimp only at qk y0 y1 y2 y3 y4 y5
          go_wp2_with fail
          with_reducible refine qk.out.mono ?_
          rintro e u7 h7
          obtain ⟨a7, c7, rfl, s7, b7⟩ := h7.open _ rfl
          have hcv7 := hcv.out a7 c7 u7 s7
          have hM7 := Lib.hid (hM.out.below b7)
          have hlk := hM7.out.look sK (by unfold maxLen; omega)
          rw [hcr'.out] at hlk
          have hO7 := Lib.hid (hO.out.below b7 hO.out.lt)
          have hbo7 := Lib.hid ((b7.cell (p := ⟨Bo, 0, none⟩) (by have := hE.out.size; have := hgo5.out; show Bo < _; omega)).trans hbo.out)
          have hE7 := Lib.hid (hE.out.trans (.of (b7.mono hE.out.size)))
          have q7 := Lib.hid (hqsh.out u7 OUT hbo7.out (by have := hE7.out.size; have := hgo5.out; show Bo < _; omega) hO7.out qrow.out)
          clear h7 qk hcv s7 b7 hM hO hbo hE xg xb y0 y1 y2 y3 y4 y5 hqsh hlb
          go_wp2_with fail
          with_reducible refine q7.out.mono ?_
          rintro e u8 ⟨rfl, e8, z8⟩
          have hM8 := Lib.hid (hM7.out.belowE e8 (by have := hgo5.out; simp; omega))
          have hlk8 := hM8.out.look sK (by unfold maxLen; omega)
          rw [hcr'.out] at hlk8
          obtain ⟨u9, hup, hM9, e9⟩ := hM8.out.add sK (by unfold maxLen; omega) (by unfold maxLen; omega) (by rw [hcr'.out]; omega)
          rw [hcr'.out] at hup hM9
          rw [hstep.out] at hM9
          rw [hlast.out] at z8
          have hM9' := Lib.hid hM9
          have z9 := Lib.hid (z8.belowE e9 z8.lt (by have := hgo5.out; simp; omega))
          have e9' := Lib.hid ((hE7.out.trans ((e8.mono hE7.out.size).wider (by simp))).trans ((e9.mono (Nat.le_trans hE7.out.size e8.size)).wider (by simp)))
          have hri : (r : Int) ≤ 100 := by omega
          clear hM9 z8 e8 e9 hM8 hM7 hO7 hbo7 hE7 q7 hlk hcv7 hstep hlast hcr' hsz
          go_wp2
          go_roundw
          case rel => exact ⟨t + 1, by omega, by go_num, hM9', z9, e9'⟩
          case measure => simp [intOf]; omega
        · obtain rfl : t = k := by omega
          have hti : ¬ (t : Int) < (t : Int) := by omega
          have hz := hO.out
          rw [outF_all _ _ _ (by rw [hsl'.out]; exact Nat.le_refl _) (fun i hi => by
            obtain ⟨s, hs, e⟩ := places_at l al0 t hi
            have := hsl'.out
            rw [← e]
            simp [List.getD, this, hs])] at hz
          have hz' := Lib.hid hz
          have hf := Lib.hid ((BelowE.of bw5.out (X := [go])).trans ((hE.out.mono bw5.out.size).less (by intro x hx hlt; have := hgo5.out; simp at hx ⊢; omega)))
          clear hz hO hE hM C5
          go_wp2
          go_end0
          exact ⟨rfl, hf.out, hz'.out⟩
set_option maxRecDepth 100000 in
set_option maxHeartbeats 4000000 in
theorem feach_of (l : List AlD) (a : Option Addr) (n c : Nat) (w0 w : World) (h0 : RO alC w0 a n c l) (hbw : Below w0.heap.size w0 w) (hW : ∀ s ∈ l, alW s) (hS : ∀ s ∈ l, smallA s) (hn : n ≤ 100) (Bo go co : Nat) (hbox : w.cell? ⟨Bo, 0, none⟩ = some (.slice (some ⟨go, 0, none⟩) n co)) (hBo : Bo < w.heap.size) (hne : Bo ≠ go) (hgo0 : w0.heap.size ≤ go) (hrow : Holds w go 29 (nums .u64 (List.replicate n 0)).toArray) :
    Calls Try.prog 25 #[.slice a n c, .func (.func 27) #[] #[.pointer (some ⟨Bo, 0, none⟩)]] w fun e w' => e = .returned (.tuple #[]) ∧ BelowE [go] w.heap.size w w' ∧ Holds w' go 29 (nums .u64 ((List.range n).map (fun i => oneK (keyA (l.getD i al0)) (rankA l i)))).toArray := by
  have hmk := mk_ints n (by omega)
  have hmm := @run_makeMap Try.prog
  have hlen := h0.len
  have hgo := hrow.lt
  have hsl : (placesF l al0 n).length = n := places_len l al0 n
  have hrk : ∀ t, t < n → cntF l (placesF l al0 n) t (strOfNums (keyA (l.getD ((placesF l al0 n).getD t 0) al0))) = rankA l ((placesF l al0 n).getD t 0) := fun t ht => by
    have q := cntF_rank l (t := t) (by omega)
    rw [← hlen] at q
    exact q
  have hrk' := Lib.hid hrk
  have hrl := Lib.hid (fun i => rank_le l i)
  obtain ⟨u2, hu2⟩ : ∃ u2, u2 = (w.alloc (.cells #[.slice a n c] 22)).alloc (.cells (nums .i64 (List.replicate n 0)).toArray 3) := ⟨_, rfl⟩
  have b2 : Below w.heap.size w u2 := by rw [hu2]; exact box2_below _ _ _ _ _
  have s2 : u2.heap.size = w.heap.size + 2 := by rw [hu2]; simp
  have Z1 : Hid (Holds u2 w.heap.size 22 #[.slice a n c]) := Lib.hid (by rw [hu2]; exact (Holds.new w _ _).alloc _)
  have Z2 : Hid (Holds u2 (w.heap.size + 1) 3 (nums .i64 (upF n 0)).toArray) := Lib.hid (by rw [hu2, upF_zero]; have q := Holds.new (w.alloc (.cells #[.slice a n c] 22)) 3 (nums .i64 (List.replicate n 0)).toArray; simpa using q)
  have ZO : Hid (Holds u2 go 29 (nums .u64 (List.replicate n 0)).toArray) := Lib.hid (hrow.below b2 hgo)
  have yo : Hid (u2.cell? ⟨Bo, 0, none⟩ = some (.slice (some ⟨go, 0, none⟩) n co)) := Lib.hid ((b2.cell (p := ⟨Bo, 0, none⟩) hBo).trans hbox)
  have hb2 : Hid (Below w0.heap.size w0 u2) := Lib.hid (hbw.trans (b2.mono hbw.size))
  have hgw : w0.heap.size ≤ w.heap.size := hbw.size
  have hu2' := Lib.hid hu2
  have b2' := Lib.hid b2
  have hm : (n : Int) ≤ 9223372036854775807 := by omega
  have hni : (n : Int) ≤ 100 := by omega
  have hRO := Lib.hid h0
  have hW' : Hid (∀ i, i < n → alW (l.getD i al0) ∧ smallA (l.getD i al0)) := Lib.hid (fun i hi => by
    have q : l.getD i al0 ∈ l := (by rw [hlen] at hi; simp [List.getD, hi])
    exact ⟨hW _ q, hS _ q⟩)
  have hlen' := Lib.hid hlen
  have hsl' := Lib.hid hsl
  have s2' := Lib.hid s2
  clear hu2 b2 h0 hbw hrow hbox hW hS hlen hsl s2 hrk
  go_enter Try.func25, Try.ntmps25
  go_wp2
  rw [← hu2'.out]
  clear hu2' hmk
  go_loopw [15] (fun x wr => ∃ k : Nat, k ≤ n ∧ x = .int .i64 k ∧ Hid (Holds wr (w.heap.size + 1) 3 (nums .i64 (upF n k)).toArray) ∧ Hid (BelowE [w.heap.size + 1] u2.heap.size u2 wr)) (fun x _ => n - (intOf x).toNat)
  case atStart => exact ⟨0, Nat.zero_le _, rfl, Z2, Lib.hid (BelowE.refl _ _ _)⟩
  case round =>
    obtain ⟨k, hk, rfl, hH, hB⟩ := hrel
    by_cases hlt : k < n
    · have hki : (k : Int) < (n : Int) := by omega
      have x0 := (hH.out.cell k).trans (nums_getD (by rw [upF_len]; exact hlt))
      have x1 := hH.out.free k
      have hs := hH.out.set k (.int .i64 (k : Int))
      rw [nums_set, upF_set] at hs
      have hs' := Lib.hid hs
      have hB' := Lib.hid (hB.out.setIn (p := ⟨w.heap.size + 1, k, none⟩) (by simp) (.int .i64 (k : Int)))
      clear hs hH hB
      generalize (upF n k).getD k 0 = ov at *
      go_wp2
      go_roundw
      case rel => exact ⟨k + 1, by omega, by go_num, hs', hB'⟩
      case measure => simp [intOf]; omega
    · obtain rfl : k = n := by omega
      have hki : ¬ (k : Int) < (k : Int) := by omega
      generalize wr = u3 at *
      have b3 : Hid (Below w0.heap.size w0 u3) := Lib.hid (hb2.out.trans ((hB.out.mono (B' := w0.heap.size) (by have := s2'.out; omega)).toBelow (by intro x hx; simp at hx; omega)))
      have Y1 : Hid (Holds u3 w.heap.size 22 #[.slice a k c]) := Lib.hid (Z1.out.belowE hB.out (by have := s2'.out; omega) (by simp))
      have YO : Hid (Holds u3 go 29 (nums .u64 (List.replicate k 0)).toArray) := Lib.hid (ZO.out.belowE hB.out (by have := s2'.out; omega) (by simp; omega))
      have yo3 : Hid (u3.cell? ⟨Bo, 0, none⟩ = some (.slice (some ⟨go, 0, none⟩) k co)) := Lib.hid ((hB.out.cell (p := ⟨Bo, 0, none⟩) (by have := s2'.out; show Bo < _; omega) (by simp; omega)).trans yo.out)
      have s3 : u2.heap.size ≤ u3.heap.size := hB.out.size
      have bw3 : Hid (Below w.heap.size w u3) := Lib.hid (b2'.out.trans ((hB.out.mono (B' := w.heap.size) (by have := s2'.out; omega)).toBelow (by intro x hx; simp at hx; omega)))
      have qs := Lib.hid (fsort_any l a k c (w.heap.size + 1) w.heap.size w0 u3 hRO.out b3.out (by omega) (by have := s2'.out; omega) (by have := s2'.out; omega) (by omega) (Y1.out.cell 0) (fun j hj => ⟨by rw [hH.out.cell j, nums_getD (by rw [upF_len]; exact hj), upF_at hj], hH.out.free j⟩) (by omega))
      have hs3 := Lib.hid s3
      clear s3 hH hB Z1 Z2 ZO yo hb2 b2'
      go_wp2_with fail
      with_reducible refine qs.out.mono ?_
      rintro e u4 ⟨rfl, e4, c4⟩
      have E4 := Lib.hid e4
      have C4 := Lib.hid c4
      clear e4 c4 qs hki
      obtain ⟨u5, hu5⟩ : ∃ u5, u5 = u4.alloc (.map #[] 0) := ⟨_, rfl⟩
      have M5 : Hid (CntM u5 u4.heap.size 0 (cntF l (placesF l al0 k) 0)) := Lib.hid (by rw [hu5, cntF_zero]; exact CntM.new u4)
      have b5 : Below u4.heap.size u4 u5 := by rw [hu5]; exact (Below.refl _ _).alloc (Nat.le_refl _) _
      have E5 : Hid (BelowE [w.heap.size + 1] u3.heap.size u3 u5) := Lib.hid (E4.out.trans (.of (b5.mono E4.out.size)))
      have s5 : Hid (u3.heap.size ≤ u4.heap.size ∧ u5.heap.size = u4.heap.size + 1) := Lib.hid ⟨E4.out.size, by rw [hu5]; simp⟩
      have X1 : Hid (Holds u5 w.heap.size 22 #[.slice a k c]) := Lib.hid (Y1.out.belowE E5.out Y1.out.lt (by simp))
      have XO : Hid (Holds u5 go 29 (nums .u64 (outF (fun i => oneK (keyA (l.getD i al0)) (rankA l i)) (placesF l al0 k) k 0)).toArray) := Lib.hid (by rw [outF_zero]; exact YO.out.belowE E5.out YO.out.lt (by simp; omega))
      have yo5 : Hid (u5.cell? ⟨Bo, 0, none⟩ = some (.slice (some ⟨go, 0, none⟩) k co)) := Lib.hid ((E5.out.cell (p := ⟨Bo, 0, none⟩) (by have := s2'.out; have := hs3.out; show Bo < _; omega) (by simp; omega)).trans yo3.out)
      have C5 : Hid (∀ j, j < k → u5.cell? ⟨w.heap.size + 1, j, none⟩ = some (.int .i64 ((placesF l al0 k).getD j 0 : Nat))) := Lib.hid (fun j hj => (b5.cell (p := ⟨w.heap.size + 1, j, none⟩) (by have := s2'.out; have := hs3.out; have := s5.out; show w.heap.size + 1 < _; omega)).trans (C4.out j hj))
      have b50 : Hid (Below w0.heap.size w0 u5) := Lib.hid (b3.out.trans ((E5.out.mono (B' := w0.heap.size) (by have := s2'.out; have := hs3.out; omega)).toBelow (by intro x hx; simp at hx; omega)))
      have bw5 : Hid (Below w.heap.size w u5) := Lib.hid (bw3.out.trans ((E5.out.mono (B' := w.heap.size) (by have := s2'.out; have := hs3.out; omega)).toBelow (by intro x hx; simp at hx; omega)))
      have hgo5 : Hid (Bo < u4.heap.size ∧ go < u4.heap.size ∧ w.heap.size + 1 < u4.heap.size ∧ u5.heap.size = u4.heap.size + 1) := Lib.hid (by have := s2'.out; have := hs3.out; have := s5.out; exact ⟨by omega, by omega, by omega, this.2⟩)
      have hu5' := Lib.hid hu5
      clear hu5 b5 E4 C4 Y1 YO yo3 b3 bw3 E5 s5 hs3 s2'
      go_wp2
      rw [← hu5'.out]
      clear hu5' hmm
      generalize u4.heap.size = M at *
      go_loopw [29] (fun x wr => ∃ t : Nat, t ≤ k ∧ x = .int .i64 t ∧ Hid (CntM wr M t (cntF l (placesF l al0 k) t)) ∧ Hid (Holds wr go 29 (nums .u64 (outF (fun i => oneK (keyA (l.getD i al0)) (rankA l i)) (placesF l al0 k) k t)).toArray) ∧ Hid (BelowE [go, M] u5.heap.size u5 wr)) (fun x _ => k - (intOf x).toNat)
      case atStart => exact ⟨0, Nat.zero_le _, rfl, M5, XO, Lib.hid (BelowE.refl _ _ _)⟩
      case round =>
        obtain ⟨t, ht, rfl, hM, hO, hE⟩ := hrel
        clear M5 XO
        generalize wr = u6 at *
        by_cases htk : t < k
        · have hti : (t : Int) < (k : Int) := by omega
          have xg := (hE.out.cell (p := ⟨w.heap.size + 1, t, none⟩) (by have := hgo5.out; show w.heap.size + 1 < _; omega) (by have := hgo5.out; simp; omega)).trans (C5.out t htk)
          have hil := places_lt l al0 k htk
          have hX := X1.out.belowE hE.out X1.out.lt (by have := hgo5.out; simp; omega)
          have xb := hX.cell 0
          simp at xb
          have hR6 := hRO.out.below (b50.out.trans ((hE.out.mono b50.out.size).toBelow (by intro x hx; have := hgo5.out; simp at hx; omega)))
          have hbo := Lib.hid ((hE.out.cell (p := ⟨Bo, 0, none⟩) (by have := hgo5.out; show Bo < _; omega) (by have := hgo5.out; simp; omega)).trans yo5.out)
          have hcr := hrk'.out t htk
          have hlast := Lib.hid (outF_set (fun i => oneK (keyA (l.getD i al0)) (rankA l i)) (placesF l al0 k) k t (by rw [hsl'.out]; exact htk))
          have hstep := Lib.hid (cntF_step l (placesF l al0 k) t (by rw [hsl'.out]; exact htk))
          have hrb := hrl.out ((placesF l al0 k).getD t 0)
          rw [hcr] at hstep
          generalize (placesF l al0 k).getD t 0 = i at *
          have hii : (i : Int) < (k : Int) := by omega
          obtain ⟨b, off, rfl, hlb, y0, y1, y2, y3, y4, y5⟩ := al_at hR6 hil
          obtain ⟨⟨wk, -⟩, hsm⟩ := hW'.out i hil
          have qk := Lib.hid (fkey_any (l.getD i al0) wk hsm u6)
          have hkl := keyA_len (l.getD i al0) wk hsm
          have hsz : (strOfNums (keyA (l.getD i al0))).size ≤ 100000 := by rw [strOfNums_size]; exact hkl
          have hr100 : rankA l i ≤ 100 := by have := hlen'.out; omega
          have qsh := Lib.hid (fun (sK : ByteArray) (hK : sK = strOfNums (keyA (l.getD i al0))) (r : Nat) (hr : r ≤ 9223372036854775807) (W : World) (out : List Int) (hbox : W.cell? ⟨Bo, 0, none⟩ = some (.slice (some ⟨go, 0, none⟩) k co)) (hBo : Bo < W.heap.size) (hrow : Holds W go 29 (nums .u64 out).toArray) (hn : k = out.length) => (show Calls Try.prog 27 #[.int .i64 i, .int .i64 r, .string sK, .pointer (some ⟨Bo, 0, none⟩)] W fun e w' => e = .returned (.tuple #[]) ∧ BelowE [go] W.heap.size W w' ∧ Holds w' go 29 (nums .u64 (out.set i (oneK (keyA (l.getD i al0)) r))).toArray from by subst hK; exact fof1_any Bo go k co i r (keyA (l.getD i al0)) (keyA_bs _) hkl out W hbox hBo hne hrow hn (by omega) hil hr))
          have qrow : Hid (k = (outF (fun i => oneK (keyA (l.getD i al0)) (rankA l i)) (placesF l al0 k) k t).length) := Lib.hid (outF_len _ _ _ _).symm
          obtain ⟨sK, hsK⟩ : ∃ sK, sK = strOfNums (keyA (l.getD i al0)) := ⟨_, rfl⟩
          obtain ⟨r, hr⟩ : ∃ r, r = rankA l i := ⟨_, rfl⟩
          have hqsh := Lib.hid (qsh.out sK hsK r (by omega))
          rw [← hsK] at hcr hstep hsz
          rw [← hr] at hcr hstep hr100
          try dsimp only at hlast
          rw [← hr] at hlast
          have hcv := Lib.hid (fun (A : Option Addr) (C : Nat) (V : World) (s : Sees .u8 V.heap.size V A (keyA (l.getD i al0))) => conv_sees (P := Try.prog) 46 9 5 Try.underlying46 Try.underlying5 Try.underlying9 s _ C rfl)
          rw [← hsK] at hcv
          have hcr' := Lib.hid hcr
          clear hX hR6 hsm wk qsh hkl hrb hsK hr hcr
          generalize keyA (l.getD i al0) = KA at *
          generalize l.getD i al0 = AL at *
          generalize outF (fun i => oneK (keyA (l.getD i al0)) (rankA l i)) (placesF l al0 k) k t = OUT at *
          obtain ⟨ak, asv, af, afi, al, ax⟩ := AL
          dsimp only at qk y0 y1 y2 y3 y4 y5
          go_wp2_with fail
          with_reducible refine qk.out.mono ?_
          rintro e u7 h7
          obtain ⟨a7, c7, rfl, s7, b7⟩ := h7.open _ rfl
          have hcv7 := hcv.out a7 c7 u7 s7
          have hM7 := Lib.hid (hM.out.below b7)
          have hlk := hM7.out.look sK (by unfold maxLen; omega)
          rw [hcr'.out] at hlk
          have hO7 := Lib.hid (hO.out.below b7 hO.out.lt)
          have hbo7 := Lib.hid ((b7.cell (p := ⟨Bo, 0, none⟩) (by have := hE.out.size; have := hgo5.out; show Bo < _; omega)).trans hbo.out)
          have hE7 := Lib.hid (hE.out.trans (.of (b7.mono hE.out.size)))
          have q7 := Lib.hid (hqsh.out u7 OUT hbo7.out (by have := hE7.out.size; have := hgo5.out; show Bo < _; omega) hO7.out qrow.out)
          clear h7 qk hcv s7 b7 hM hO hbo hE xg xb y0 y1 y2 y3 y4 y5 hqsh hlb
          go_wp2_with fail
          with_reducible refine q7.out.mono ?_
          rintro e u8 ⟨rfl, e8, z8⟩
          have hM8 := Lib.hid (hM7.out.belowE e8 (by have := hgo5.out; simp; omega))
          have hlk8 := hM8.out.look sK (by unfold maxLen; omega)
          rw [hcr'.out] at hlk8
          obtain ⟨u9, hup, hM9, e9⟩ := hM8.out.add sK (by unfold maxLen; omega) (by unfold maxLen; omega) (by rw [hcr'.out]; omega)
          rw [hcr'.out] at hup hM9
          rw [hstep.out] at hM9
          rw [hlast.out] at z8
          have hM9' := Lib.hid hM9
          have z9 := Lib.hid (z8.belowE e9 z8.lt (by have := hgo5.out; simp; omega))
          have e9' := Lib.hid ((hE7.out.trans ((e8.mono hE7.out.size).wider (by simp))).trans ((e9.mono (Nat.le_trans hE7.out.size e8.size)).wider (by simp)))
          have hri : (r : Int) ≤ 100 := by omega
          clear hM9 z8 e8 e9 hM8 hM7 hO7 hbo7 hE7 q7 hlk hcv7 hstep hlast hcr' hsz
          go_wp2
          go_roundw
          case rel => exact ⟨t + 1, by omega, by go_num, hM9', z9, e9'⟩
          case measure => simp [intOf]; omega
        · obtain rfl : t = k := by omega
          have hti : ¬ (t : Int) < (t : Int) := by omega
          have hz := hO.out
          rw [outF_all _ _ _ (by rw [hsl'.out]; exact Nat.le_refl _) (fun i hi => by
            obtain ⟨s, hs, e⟩ := places_at l al0 t hi
            have := hsl'.out
            rw [← e]
            simp [List.getD, this, hs])] at hz
          have hz' := Lib.hid hz
          have hf := Lib.hid ((BelowE.of bw5.out (X := [go])).trans ((hE.out.mono bw5.out.size).less (by intro x hx hlt; have := hgo5.out; simp at hx ⊢; omega)))
          clear hz hO hE hM C5
          go_wp2
          go_end0
          exact ⟨rfl, hf.out, hz'.out⟩
end Go.Proofs.Ytbpaoiajfjkmfaa
namespace Go.Proofs.Ytbpaoiajfjkmfaa
open Go.RowKit
set_option linter.unusedVariables false
set_option linter.unusedSimpArgs false
theorem made_holds {w w' : World} {e : TypeId} {k : IntKind} {g n : Nat} {l : List Int} (h : Holds w' g e (nums k l).toArray) (hn : n = l.length) (hm : n ≤ maxLen) (hg : w.heap.size ≤ g) (hb : Below w.heap.size w w') : Made e k w l (.returned (.slice (some ⟨g, 0, none⟩) n n)) w' := by
  subst hn
  exact ⟨_, rfl, ⟨by simp [nums], .inr ⟨g, l.length, (nums k l).toArray, rfl, hg, h, Nat.le_refl _, hm, by simp [nums], by rw [List.take_of_length_le (by simp [nums])]⟩⟩, hb⟩
set_option maxRecDepth 100000 in
set_option maxHeartbeats 2000000 in
theorem frankss_any (l : List AlD) (a : Option Addr) (n c : Nat) (w : World) (h0 : RO alC w a n c l) (hW : ∀ s ∈ l, alW s) (hS : ∀ s ∈ l, smallA s) (hn : n ≤ 100) :
    Calls Try.prog 13 #[.slice a n c] w (Made 3 .i64 w ((List.range n).map (fun i => (rankA l i : Int)))) := by
  have hmk := mk_ints n (by omega)
  obtain ⟨u2, hu2⟩ : ∃ u2, u2 = (w.alloc (.cells (nums .i64 (List.replicate n 0)).toArray 3)).alloc (.cells #[.slice (some ⟨w.heap.size, 0, none⟩) n n] 27) := ⟨_, rfl⟩
  have b2 : Below w.heap.size w u2 := by rw [hu2]; exact box2_below _ _ _ _ _
  have s2 : u2.heap.size = w.heap.size + 2 := by rw [hu2]; simp
  have Z1 : Holds u2 w.heap.size 3 (nums .i64 (List.replicate n 0)).toArray := by rw [hu2]; exact (Holds.new w _ _).alloc _
  have Z2 : Holds u2 (w.heap.size + 1) 27 #[.slice (some ⟨w.heap.size, 0, none⟩) n n] := by rw [hu2]; have q := Holds.new (w.alloc (.cells (nums .i64 (List.replicate n 0)).toArray 3)) 27 #[.slice (some ⟨w.heap.size, 0, none⟩) n n]; simpa using q
  have qe := Lib.hid (feach_rk l a n c w u2 h0 b2 hW hS hn (w.heap.size + 1) w.heap.size n (Z2.cell 0) (by omega) (by omega) (Nat.le_refl _) Z1)
  have hm : (n : Int) ≤ 9223372036854775807 := by omega
  have hu2' := Lib.hid hu2
  have b2' := Lib.hid b2
  have s2' := Lib.hid s2
  have Z2' := Lib.hid Z2
  have hlen : Hid (n = ((List.range n).map (fun i => (rankA l i : Int))).length) := Lib.hid (by simp)
  clear hu2 b2 s2 Z1 Z2 h0 hW hS
  generalize (List.range n).map (fun i => (rankA l i : Int)) = R at *
  go_enter Try.func13, Try.ntmps13
  go_wp2_with fail
  rw [← hu2'.out]
  with_reducible refine qe.out.mono ?_
  rintro e u3 ⟨rfl, e3, z3⟩
  have z3' := Lib.hid z3
  have zb := (Z2'.out.belowE e3 Z2'.out.lt (by simp)).cell 0
  simp at zb
  have hB := Lib.hid (b2'.out.trans ((e3.mono (B' := w.heap.size) (by have := s2'.out; omega)).toBelow (by intro x hx; simp at hx; omega)))
  clear z3 e3 qe hu2' hmk Z2' b2' s2'
  go_wp2
  go_ret
  exact made_holds z3'.out hlen.out (by unfold maxLen; omega) (Nat.le_refl _) hB.out
set_option maxRecDepth 100000 in
set_option maxHeartbeats 2000000 in
theorem fofs_any (l : List AlD) (a : Option Addr) (n c : Nat) (w : World) (h0 : RO alC w a n c l) (hW : ∀ s ∈ l, alW s) (hS : ∀ s ∈ l, smallA s) (hn : n ≤ 100) :
    Calls Try.prog 15 #[.slice a n c] w (Made 29 .u64 w ((List.range n).map (fun i => oneK (keyA (l.getD i al0)) (rankA l i)))) := by
  have hmk := mk_u64s n (by omega)
  obtain ⟨u2, hu2⟩ : ∃ u2, u2 = (w.alloc (.cells (nums .u64 (List.replicate n 0)).toArray 29)).alloc (.cells #[.slice (some ⟨w.heap.size, 0, none⟩) n n] 36) := ⟨_, rfl⟩
  have b2 : Below w.heap.size w u2 := by rw [hu2]; exact box2_below _ _ _ _ _
  have s2 : u2.heap.size = w.heap.size + 2 := by rw [hu2]; simp
  have Z1 : Holds u2 w.heap.size 29 (nums .u64 (List.replicate n 0)).toArray := by rw [hu2]; exact (Holds.new w _ _).alloc _
  have Z2 : Holds u2 (w.heap.size + 1) 36 #[.slice (some ⟨w.heap.size, 0, none⟩) n n] := by rw [hu2]; have q := Holds.new (w.alloc (.cells (nums .u64 (List.replicate n 0)).toArray 29)) 36 #[.slice (some ⟨w.heap.size, 0, none⟩) n n]; simpa using q
  have qe := Lib.hid (feach_of l a n c w u2 h0 b2 hW hS hn (w.heap.size + 1) w.heap.size n (Z2.cell 0) (by omega) (by omega) (Nat.le_refl _) Z1)
  have hm : (n : Int) ≤ 9223372036854775807 := by omega
  have hu2' := Lib.hid hu2
  have b2' := Lib.hid b2
  have s2' := Lib.hid s2
  have Z2' := Lib.hid Z2
  have hlen : Hid (n = ((List.range n).map (fun i => oneK (keyA (l.getD i al0)) (rankA l i))).length) := Lib.hid (by simp)
  clear hu2 b2 s2 Z1 Z2 h0 hW hS
  generalize (List.range n).map (fun i => oneK (keyA (l.getD i al0)) (rankA l i)) = R at *
  go_enter Try.func15, Try.ntmps15
  go_wp2_with fail
  rw [← hu2'.out]
  with_reducible refine qe.out.mono ?_
  rintro e u3 ⟨rfl, e3, z3⟩
  have z3' := Lib.hid z3
  have zb := (Z2'.out.belowE e3 Z2'.out.lt (by simp)).cell 0
  simp at zb
  have hB := Lib.hid (b2'.out.trans ((e3.mono (B' := w.heap.size) (by have := s2'.out; omega)).toBelow (by intro x hx; simp at hx; omega)))
  clear z3 e3 qe hu2' hmk Z2' b2' s2'
  go_wp2
  go_ret
  exact made_holds z3'.out hlen.out (by unfold maxLen; omega) (Nat.le_refl _) hB.out
theorem fing_is (l : List AlD) {n : Nat} (hn : n = l.length) : (List.range n).map (fun i => oneK (keyA (l.getD i al0)) (rankA l i)) = fingA l := by
  subst hn
  rfl
end Go.Proofs.Ytbpaoiajfjkmfaa
namespace Go.Proofs.Ytbpaoiajfjkmfaa
open Go.RowKit
set_option linter.unusedVariables false
set_option linter.unusedSimpArgs false
structure SU (k : IntKind) (w : World) (a : Option Addr) (m c : Nat) (l : List Int) : Prop where
  len : m = l.length
  max : m ≤ 9223372036854775807
  sees : Sees k w.heap.size w a l
theorem SU.below {k : IntKind} {w w' : World} {a : Option Addr} {m c : Nat} {l : List Int} (h : SU k w a m c l) (hb : Below w.heap.size w w') : SU k w' a m c l := ⟨h.len, h.max, (h.sees.below hb).mono hb.size⟩
def DrawnT (v : Value) (w : World) (e : Ending) (w' : World) : Prop := e = .returned v ∧ ∃ m, w' = w.drewN m
set_option maxRecDepth 100000 in
set_option maxHeartbeats 2000000 in
theorem rfsame_any (a1 a2 : Option Addr) (l1 l2 : List Int) (n1 n2 c1 c2 : Nat) (w : World) (h1 : SU .u64 w a1 n1 c1 l1) (h2 : SU .u64 w a2 n2 c2 l2) :
    Calls Try.prog 14 #[.slice a1 n1 c1, .slice a2 n2 c2] w (DrawnT (.bool (decide (l1 = l2))) w) := by
  have e1 := Lib.hid h1.len
  have e2 := Lib.hid h2.len
  have g1 := Lib.hid h1
  have g2 := Lib.hid h2
  have b1 : (n1 : Int) ≤ 9223372036854775807 := by have := h1.max; omega
  clear h1 h2
  by_cases hn : n1 = n2
  case neg =>
    have hr : decide (l1 = l2) = false := decide_eq_false (fun e => hn (by rw [e1.out, e2.out, e]))
    rw [hr]
    have hi2 : ((n1 : Int) != (n2 : Int)) = true := by simp; omega
    clear hr hn
    go_enter Try.func14, Try.ntmps14
    go_wp2
    go_ret
    exact ⟨rfl, 0, rfl⟩
  subst hn
  go_enter Try.func14, Try.ntmps14
  go_wp2
  go_loopw [5] (fun x wr => ∃ k m : Nat, k ≤ n1 ∧ x = .int .i64 k ∧ Hid (∀ j, j < k → l1.getD j 0 = l2.getD j 0) ∧ wr = w.drewN m) (fun x _ => n1 - (intOf x).toNat)
  case atStart => exact ⟨0, 0, Nat.zero_le _, rfl, Lib.hid (by intro j hj; omega), rfl⟩
  case round =>
    obtain ⟨k, m, hk, rfl, he, rfl⟩ := hrel
    by_cases hlt : k < n1
    · obtain ⟨b1, o1, rfl, -, x1⟩ := sees_num g1.out.sees (i := k) (by rw [← e1.out]; exact hlt)
      obtain ⟨b2, o2, rfl, -, x2⟩ := sees_num g2.out.sees (i := k) (by rw [← e2.out]; exact hlt)
      have hki : (k : Int) < (n1 : Int) := by omega
      have hyes : Hid (l1.getD k 0 = l2.getD k 0 → ∀ j, j < k + 1 → l1.getD j 0 = l2.getD j 0) := Lib.hid (fun hx j hj => by
        by_cases e : j = k
        · subst e; exact hx
        · exact he.out j (by omega))
      have hno : Hid (¬ l1.getD k 0 = l2.getD k 0 → decide (l1 = l2) = false) := Lib.hid (fun hx => decide_eq_false (fun e => hx (by rw [e])))
      generalize l1.getD k 0 = v1 at *
      generalize l2.getD k 0 = v2 at *
      by_cases hv : v1 = v2
      · have hy := Lib.hid (hyes.out hv)
        subst hv
        have hvv : (v1 != v1) = false := by simp
        clear hyes hno he
        go_wp2
        go_quiet (fail)
        go_wp2
        go_roundw
        case rel => exact ⟨k + 1, m + nq, by omega, by go_num, hy, by simp [World.drewN, Nat.add_assoc]⟩
        case measure => simp [intOf]; omega
      · have hvv : (v1 != v2) = true := by simp [hv]
        rw [hno.out hv]
        clear hyes hno he hv
        go_wp2
        go_quiet (fail)
        go_wp2
        go_ret
        exact ⟨rfl, m + nq, by simp [World.drewN, Nat.add_assoc]⟩
    · obtain rfl : k = n1 := by omega
      have hki : ¬ (k : Int) < (k : Int) := by omega
      have hy : decide (l1 = l2) = true := decide_eq_true (by
        apply List.ext_getElem
        · rw [← e1.out, e2.out]
        · intro i a b
          have := he.out i (by rw [e1.out]; exact a)
          simpa [List.getD, a, b] using this)
      have hy' := Lib.hid hy
      clear hy he
      go_wp2
      go_ret
      exact ⟨by rw [hy'.out]; rfl, m, rfl⟩
end Go.Proofs.Ytbpaoiajfjkmfaa
namespace Go.Proofs.Ytbpaoiajfjkmfaa
open Go.RowKit
set_option linter.unusedVariables false
set_option linter.unusedSimpArgs false
def lvA : AlD := ⟨1, 1, ⟨#[102]⟩, ⟨#[97, 46, 103, 111]⟩, 9, ⟨#[120, 32, 45, 32, 121, 32, 60, 61, 32, 48]⟩⟩
def lvB : AlD := ⟨1, 1, ⟨#[102]⟩, ⟨#[97, 46, 103, 111]⟩, 3, ⟨#[120, 45, 121, 32, 60, 61, 48]⟩⟩
theorem lv_key : keyA lvA = keyA lvB := by
  unfold keyA lvA lvB
  have e : normS (codes ⟨#[120, 32, 45, 32, 121, 32, 60, 61, 32, 48]⟩) = normS (codes ⟨#[120, 45, 121, 32, 60, 61, 48]⟩) := by
    rw [show codes ⟨#[120, 32, 45, 32, 121, 32, 60, 61, 32, 48]⟩ = [120, 32, 45, 32, 121, 32, 60, 61, 32, 48] by rfl, show codes ⟨#[120, 45, 121, 32, 60, 61, 48]⟩ = [120, 45, 121, 32, 60, 61, 48] by rfl]
    simp [normS, normL, hw, partsL, wdB, letB]
  rw [e]
theorem lv_cmp1 : cmpA lvA lvB = 1 := by decide +kernel
theorem lv_cmp2 : cmpA lvB lvA = -1 := by decide +kernel
theorem lv_rank0 : rankA [lvA, lvB] 0 = 1 := by
  unfold rankA rankL
  have e : List.range [lvA, lvB].length = [0, 1] := rfl
  rw [e]
  have s0 : aheadB cmpA [lvA, lvB] al0 0 0 = false := ahead_self cmA _ _ _
  have s1 : aheadB cmpA [lvA, lvB] al0 1 0 = true := by unfold aheadB; rw [show [lvA, lvB].getD 1 al0 = lvB from rfl, show [lvA, lvB].getD 0 al0 = lvA from rfl, lv_cmp2]; rfl
  have k1 : keyA ([lvA, lvB].getD 1 al0) = keyA ([lvA, lvB].getD 0 al0) := lv_key.symm
  simp only [List.countP_cons, List.countP_nil, s0, s1, Bool.false_and, Bool.true_and]
  rw [decide_eq_true k1]
  rfl
theorem lv_rank1 : rankA [lvA, lvB] 1 = 0 := by
  unfold rankA rankL
  have e : List.range [lvA, lvB].length = [0, 1] := rfl
  rw [e]
  have s0 : aheadB cmpA [lvA, lvB] al0 1 1 = false := ahead_self cmA _ _ _
  have s1 : aheadB cmpA [lvA, lvB] al0 0 1 = false := by unfold aheadB; rw [show [lvA, lvB].getD 1 al0 = lvB from rfl, show [lvA, lvB].getD 0 al0 = lvA from rfl, lv_cmp1]; rfl
  simp only [List.countP_cons, List.countP_nil, s0, s1, Bool.false_and]
  rfl
theorem lv_ranks : (List.range 2).map (fun i => (rankA [lvA, lvB] i : Int)) = [1, 0] := by
  rw [show List.range 2 = [0, 1] from rfl]
  simp only [List.map_cons, List.map_nil, lv_rank0, lv_rank1]
  rfl
theorem lv_fing : (List.range 2).map (fun i => oneK (keyA ([lvA, lvB].getD i al0)) (rankA [lvA, lvB] i)) = [oneK (keyA lvA) 1, oneK (keyA lvA) 0] := by
  rw [show List.range 2 = [0, 1] from rfl]
  simp only [List.map_cons, List.map_nil, lv_rank0, lv_rank1]
  rw [show [lvA, lvB].getD 1 al0 = lvB from rfl, show [lvA, lvB].getD 0 al0 = lvA from rfl, lv_key]
theorem lv_ne (k : List Int) : (oneK k 1 != oneK k 0) = true := by
  rw [bne_iff_ne]
  intro h
  unfold oneK at h
  rw [leb_small (by omega), leb_small (by omega)] at h
  have := fstep_inj (t := fsum fstart k) (x := 1) (y := 0) (fsum_in fstart_in k) (by unfold InU; omega) (by unfold InU; omega) h
  omega
theorem lv_w : ∀ s ∈ [lvA, lvB], alW s := by
  intro s hs
  simp at hs
  rcases hs with rfl | rfl <;> (unfold alW; decide)
theorem lv_s : ∀ s ∈ [lvA, lvB], smallA s := by
  intro s hs
  simp at hs
  rcases hs with rfl | rfl <;> (unfold smallA; decide)
theorem lv_lit (w : World) (cs : Array Value) (h : cs.toList = [lvA, lvB].flatMap alC) : RO alC (w.alloc (.cells cs 24)) (some ⟨w.heap.size, 0, none⟩) 2 2 [lvA, lvB] := by
  refine ⟨rfl, Nat.le_refl _, by decide, ?_⟩
  rw [← h]
  exact seesC_lit w _ cs
set_option maxRecDepth 100000 in
set_option maxHeartbeats 4000000 in
theorem flives_any (w : World) : Calls Try.prog 8 #[] w (Gives (.bool true) w) := by
  have q1 := Lib.hid (fun (a : Option Addr) (W : World) (h : RO alC W a 2 2 [lvA, lvB]) => frankss_any [lvA, lvB] a 2 2 W h lv_w lv_s (by omega))
  have q2 := Lib.hid (fun (a : Option Addr) (W : World) (h : RO alC W a 2 2 [lvA, lvB]) => fofs_any [lvA, lvB] a 2 2 W h lv_w lv_s (by omega))
  have q3 : Hid (∀ W, Calls Try.prog 10 #[.agg #[.int .i64 1, .int .i64 1, .string ⟨#[102]⟩, .string ⟨#[97, 46, 103, 111]⟩, .int .i64 3, .string ⟨#[120, 45, 121, 32, 60, 61, 48]⟩], .int .i64 1] W (Gives (.int .u64 (oneA lvB 1)) W)) := Lib.hid (fun (W : World) => fone_any lvB (by decide) (by unfold smallA; decide) 1 (by decide) W)
  have q4 : Hid (∀ W, Calls Try.prog 10 #[.agg #[.int .i64 1, .int .i64 1, .string ⟨#[102]⟩, .string ⟨#[97, 46, 103, 111]⟩, .int .i64 9, .string ⟨#[120, 32, 45, 32, 121, 32, 60, 61, 32, 48]⟩], .int .i64 0] W (Gives (.int .u64 (oneA lvA 0)) W)) := Lib.hid (fun (W : World) => fone_any lvA (by decide) (by unfold smallA; decide) 0 (by decide) W)
  rw [lv_ranks] at q1
  rw [lv_fing] at q2
  have e3 : oneA lvB 1 = oneK (keyA lvA) 1 := by unfold oneA; rw [lv_key]; rfl
  have e4 : oneA lvA 0 = oneK (keyA lvA) 0 := rfl
  rw [e3] at q3
  rw [e4] at q4
  have hne := lv_ne (keyA lvA)
  clear e3 e4
  generalize oneK (keyA lvA) 1 = R1 at *
  generalize oneK (keyA lvA) 0 = R0 at *
  obtain ⟨W1, hW1⟩ : ∃ W1, W1 = ((w.alloc (.cells #[.int .i64 1, .int .i64 1, .string ⟨#[102]⟩, .string ⟨#[97, 46, 103, 111]⟩, .int .i64 9, .string ⟨#[120, 32, 45, 32, 121, 32, 60, 61, 32, 48]⟩] 24)).alloc (.cells #[.int .i64 1, .int .i64 1, .string ⟨#[102]⟩, .string ⟨#[97, 46, 103, 111]⟩, .int .i64 3, .string ⟨#[120, 45, 121, 32, 60, 61, 48]⟩] 24)).alloc (.cells #[.int .i64 1, .int .i64 1, .string ⟨#[102]⟩, .string ⟨#[97, 46, 103, 111]⟩, .int .i64 9, .string ⟨#[120, 32, 45, 32, 121, 32, 60, 61, 32, 48]⟩, .int .i64 1, .int .i64 1, .string ⟨#[102]⟩, .string ⟨#[97, 46, 103, 111]⟩, .int .i64 3, .string ⟨#[120, 45, 121, 32, 60, 61, 48]⟩] 24) := ⟨_, rfl⟩
  have B1 : Hid (Below w.heap.size w W1) := Lib.hid (by rw [hW1]; exact (box2_below _ _ _ _ _).alloc (by simp; omega) _)
  have ZA : Hid (Holds W1 w.heap.size 24 #[.int .i64 1, .int .i64 1, .string ⟨#[102]⟩, .string ⟨#[97, 46, 103, 111]⟩, .int .i64 9, .string ⟨#[120, 32, 45, 32, 121, 32, 60, 61, 32, 48]⟩]) := Lib.hid (by rw [hW1]; exact ((Holds.new w _ _).alloc _).alloc _)
  have ZB : Hid (Holds W1 (w.heap.size + 1) 24 #[.int .i64 1, .int .i64 1, .string ⟨#[102]⟩, .string ⟨#[97, 46, 103, 111]⟩, .int .i64 3, .string ⟨#[120, 45, 121, 32, 60, 61, 48]⟩]) := Lib.hid (by rw [hW1]; have q := (Holds.new (w.alloc (.cells #[.int .i64 1, .int .i64 1, .string ⟨#[102]⟩, .string ⟨#[97, 46, 103, 111]⟩, .int .i64 9, .string ⟨#[120, 32, 45, 32, 121, 32, 60, 61, 32, 48]⟩] 24)) 24 #[.int .i64 1, .int .i64 1, .string ⟨#[102]⟩, .string ⟨#[97, 46, 103, 111]⟩, .int .i64 3, .string ⟨#[120, 45, 121, 32, 60, 61, 48]⟩]).alloc (.cells #[.int .i64 1, .int .i64 1, .string ⟨#[102]⟩, .string ⟨#[97, 46, 103, 111]⟩, .int .i64 9, .string ⟨#[120, 32, 45, 32, 121, 32, 60, 61, 32, 48]⟩, .int .i64 1, .int .i64 1, .string ⟨#[102]⟩, .string ⟨#[97, 46, 103, 111]⟩, .int .i64 3, .string ⟨#[120, 45, 121, 32, 60, 61, 48]⟩] 24); simpa using q)
  have R1' : Hid (RO alC W1 (some ⟨w.heap.size + 1 + 1, 0, none⟩) 2 2 [lvA, lvB]) := Lib.hid (by rw [hW1]; have q := lv_lit ((w.alloc (.cells #[.int .i64 1, .int .i64 1, .string ⟨#[102]⟩, .string ⟨#[97, 46, 103, 111]⟩, .int .i64 9, .string ⟨#[120, 32, 45, 32, 121, 32, 60, 61, 32, 48]⟩] 24)).alloc (.cells #[.int .i64 1, .int .i64 1, .string ⟨#[102]⟩, .string ⟨#[97, 46, 103, 111]⟩, .int .i64 3, .string ⟨#[120, 45, 121, 32, 60, 61, 48]⟩] 24)) #[.int .i64 1, .int .i64 1, .string ⟨#[102]⟩, .string ⟨#[97, 46, 103, 111]⟩, .int .i64 9, .string ⟨#[120, 32, 45, 32, 121, 32, 60, 61, 32, 48]⟩, .int .i64 1, .int .i64 1, .string ⟨#[102]⟩, .string ⟨#[97, 46, 103, 111]⟩, .int .i64 3, .string ⟨#[120, 45, 121, 32, 60, 61, 48]⟩] rfl; simpa using q)
  have hW1' := Lib.hid hW1
  clear hW1
  go_enter Try.func8, Try.ntmps8
  go_wp2_with fail
  rw [← hW1'.out]
  with_reducible refine (q1.out _ _ R1'.out).mono ?_
  rintro e w2 h2
  obtain ⟨a2, c2, rfl, s2, b2⟩ := h2.open 2 rfl
  clear h2 q1 R1' hW1'
  replace ZA := Lib.hid (ZA.out.below b2 ZA.out.lt)
  replace ZB := Lib.hid (ZB.out.below b2 ZB.out.lt)
  replace B1 := Lib.hid (B1.out.trans (b2.mono B1.out.size))
  have xa0 := ZA.out.cell 0
  have xa1 := ZA.out.cell 1
  have xa2 := ZA.out.cell 2
  have xa3 := ZA.out.cell 3
  have xa4 := ZA.out.cell 4
  have xa5 := ZA.out.cell 5
  have xb0 := ZB.out.cell 0
  have xb1 := ZB.out.cell 1
  have xb2 := ZB.out.cell 2
  have xb3 := ZB.out.cell 3
  have xb4 := ZB.out.cell 4
  have xb5 := ZB.out.cell 5
  simp at xa0 xa1 xa2 xa3 xa4 xa5 xb0 xb1 xb2 xb3 xb4 xb5
  have s2' := Lib.hid s2
  have R2' := Lib.hid (lv_lit w2 #[.int .i64 1, .int .i64 1, .string ⟨#[102]⟩, .string ⟨#[97, 46, 103, 111]⟩, .int .i64 9, .string ⟨#[120, 32, 45, 32, 121, 32, 60, 61, 32, 48]⟩, .int .i64 1, .int .i64 1, .string ⟨#[102]⟩, .string ⟨#[97, 46, 103, 111]⟩, .int .i64 3, .string ⟨#[120, 45, 121, 32, 60, 61, 48]⟩] rfl)
  have B2 := Lib.hid (box_below w2 #[.int .i64 1, .int .i64 1, .string ⟨#[102]⟩, .string ⟨#[97, 46, 103, 111]⟩, .int .i64 9, .string ⟨#[120, 32, 45, 32, 121, 32, 60, 61, 32, 48]⟩, .int .i64 1, .int .i64 1, .string ⟨#[102]⟩, .string ⟨#[97, 46, 103, 111]⟩, .int .i64 3, .string ⟨#[120, 45, 121, 32, 60, 61, 48]⟩] 24)
  clear s2 b2
  go_wp2_with fail
  with_reducible refine (q2.out _ _ R2'.out).mono ?_
  rintro e w3 h3
  obtain ⟨a3, c3, rfl, s3, b3⟩ := h3.open 2 rfl
  have b3' := Lib.hid (B2.out.trans (b3.mono B2.out.size))
  clear h3 q2 R2' xa0 xa1 xa2 xa3 xa4 xa5 xb0 xb1 xb2 xb3 xb4 xb5 B2 b3
  replace ZA := Lib.hid (ZA.out.below b3'.out ZA.out.lt)
  replace ZB := Lib.hid (ZB.out.below b3'.out ZB.out.lt)
  replace B1 := Lib.hid (B1.out.trans (b3'.out.mono B1.out.size))
  have s4 := s2'.out.below b3'.out
  rcases s4 with h | ⟨g4, o4, rfl, l4, c4⟩
  · cases h
  rcases s3 with h | ⟨g5, o5, rfl, l5, c5⟩
  · cases h
  have l4' : g4 < w3.heap.size := Nat.lt_of_lt_of_le l4 b3'.out.size
  have p0 : ∀ V, Below w3.heap.size w3 V → V.cell? ⟨g4, o4, none⟩ = some (.int .i64 1) := fun V hV => (hV.cell (p := ⟨g4, o4, none⟩) l4').trans (c4 0 (by decide))
  have p1 : ∀ V, Below w3.heap.size w3 V → V.cell? ⟨g4, o4 + 1, none⟩ = some (.int .i64 0) := fun V hV => (hV.cell (p := ⟨g4, o4 + 1, none⟩) l4').trans (c4 1 (by decide))
  have r0 : ∀ V, Below w3.heap.size w3 V → V.cell? ⟨g5, o5, none⟩ = some (.int .u64 R1) := fun V hV => (hV.cell (p := ⟨g5, o5, none⟩) l5).trans (c5 0 (by simp))
  have r1 : ∀ V, Below w3.heap.size w3 V → V.cell? ⟨g5, o5 + 1, none⟩ = some (.int .u64 R0) := fun V hV => (hV.cell (p := ⟨g5, o5 + 1, none⟩) l5).trans (c5 1 (by simp))
  have yA0 : ∀ V, Below w3.heap.size w3 V → V.cell? ⟨w.heap.size, 0, none⟩ = some (.int .i64 1) := fun V hV => (ZA.out.below hV ZA.out.lt).cell 0
  have yA1 : ∀ V, Below w3.heap.size w3 V → V.cell? ⟨w.heap.size, 1, none⟩ = some (.int .i64 1) := fun V hV => (ZA.out.below hV ZA.out.lt).cell 1
  have yA2 : ∀ V, Below w3.heap.size w3 V → V.cell? ⟨w.heap.size, 2, none⟩ = some (.string ⟨#[102]⟩) := fun V hV => (ZA.out.below hV ZA.out.lt).cell 2
  have yA3 : ∀ V, Below w3.heap.size w3 V → V.cell? ⟨w.heap.size, 3, none⟩ = some (.string ⟨#[97, 46, 103, 111]⟩) := fun V hV => (ZA.out.below hV ZA.out.lt).cell 3
  have yA4 : ∀ V, Below w3.heap.size w3 V → V.cell? ⟨w.heap.size, 4, none⟩ = some (.int .i64 9) := fun V hV => (ZA.out.below hV ZA.out.lt).cell 4
  have yA5 : ∀ V, Below w3.heap.size w3 V → V.cell? ⟨w.heap.size, 5, none⟩ = some (.string ⟨#[120, 32, 45, 32, 121, 32, 60, 61, 32, 48]⟩) := fun V hV => (ZA.out.below hV ZA.out.lt).cell 5
  have yB0 : ∀ V, Below w3.heap.size w3 V → V.cell? ⟨w.heap.size + 1, 0, none⟩ = some (.int .i64 1) := fun V hV => (ZB.out.below hV ZB.out.lt).cell 0
  have yB1 : ∀ V, Below w3.heap.size w3 V → V.cell? ⟨w.heap.size + 1, 1, none⟩ = some (.int .i64 1) := fun V hV => (ZB.out.below hV ZB.out.lt).cell 1
  have yB2 : ∀ V, Below w3.heap.size w3 V → V.cell? ⟨w.heap.size + 1, 2, none⟩ = some (.string ⟨#[102]⟩) := fun V hV => (ZB.out.below hV ZB.out.lt).cell 2
  have yB3 : ∀ V, Below w3.heap.size w3 V → V.cell? ⟨w.heap.size + 1, 3, none⟩ = some (.string ⟨#[97, 46, 103, 111]⟩) := fun V hV => (ZB.out.below hV ZB.out.lt).cell 3
  have yB4 : ∀ V, Below w3.heap.size w3 V → V.cell? ⟨w.heap.size + 1, 4, none⟩ = some (.int .i64 3) := fun V hV => (ZB.out.below hV ZB.out.lt).cell 4
  have yB5 : ∀ V, Below w3.heap.size w3 V → V.cell? ⟨w.heap.size + 1, 5, none⟩ = some (.string ⟨#[120, 45, 121, 32, 60, 61, 48]⟩) := fun V hV => (ZB.out.below hV ZB.out.lt).cell 5
  clear c4 c5 s2' b3' ZA ZB l4 l5 l4'
  go_wp2
  refine wp_drawn_on (fun V => Below w3.heap.size w3 V) (by kernel_rfl) ((Below.refl _ _).drew) (fun hHeld => ?_)
  refine wpAnyH_take (i := 0) (oi := { dst := some 17, op := Go.Op.move (Go.Operand.tmp 3), type := 27, pos := "law.go:21", after := #[], guard := none }) (v := ?v1) rfl (by kernel_rfl) (by kernel_rfl) (by kernel_rfl) (fun _ _ _ h => h) (Or.inl ⟨by kernel_rfl, ?h1⟩) (by assumption) ?r1
  case h1 => (intro w hSw; (try dsimp only at hSw); go_simp; try with_reducible rfl)
  try simp only [Act.put, List.setIfInBounds_toArray, List.set_cons_zero, List.set_cons_succ]
  refine wpAnyH_take (i := 1) (oi := { dst := some 18, op := Go.Op.call { callee := Go.Callee.builtin Go.Builtin.len, args := #[Go.Operand.tmp 17], argTypes := #[27] }, type := 3, pos := "law.go:21", after := #[{ on := 0, ground := Go.Ground.data }], guard := none }) (v := ?v2) rfl (by kernel_rfl) (by kernel_rfl) (by kernel_rfl) (fun _ _ _ h => h) (Or.inl ⟨by kernel_rfl, ?h2⟩) (by assumption) ?r2
  case h2 => (intro w hSw; (try dsimp only at hSw); go_simp; try with_reducible rfl)
  try simp only [Act.put, List.setIfInBounds_toArray, List.set_cons_zero, List.set_cons_succ]
  refine wpAnyH_take (i := 2) (oi := { dst := some 19, op := Go.Op.binOp Go.BinOp.eql 3 (Go.Operand.tmp 18) (Go.Operand.const (Go.Value.int Go.IntKind.i64 2)) 3, type := 4, pos := "law.go:21", after := #[{ on := 1, ground := Go.Ground.data }], guard := none }) (v := ?v3) rfl (by kernel_rfl) (by kernel_rfl) (by kernel_rfl) (fun _ _ _ h => h) (Or.inl ⟨by kernel_rfl, ?h3⟩) (by assumption) ?r3
  case h3 => (intro w hSw; (try dsimp only at hSw); go_simp; try with_reducible rfl)
  try simp only [Act.put, List.setIfInBounds_toArray, List.set_cons_zero, List.set_cons_succ]
  refine wpAnyH_take (i := 3) (oi := { dst := some 20, op := Go.Op.move (Go.Operand.tmp 19), type := 4, pos := "law.go:21", after := #[{ on := 2, ground := Go.Ground.data }], guard := none }) (v := ?v4) rfl (by kernel_rfl) (by kernel_rfl) (by kernel_rfl) (fun _ _ _ h => h) (Or.inl ⟨by kernel_rfl, ?h4⟩) (by assumption) ?r4
  case h4 => (intro w hSw; (try dsimp only at hSw); go_simp; try with_reducible rfl)
  try simp only [Act.put, List.setIfInBounds_toArray, List.set_cons_zero, List.set_cons_succ]
  refine wpAnyH_take (i := 4) (oi := { dst := some 21, op := Go.Op.move (Go.Operand.tmp 3), type := 27, pos := "law.go:21", after := #[{ on := 3, ground := Go.Ground.guard }], guard := some (3, true) }) (v := ?v5) rfl (by kernel_rfl) (by kernel_rfl) (by kernel_rfl) (fun _ _ _ h => h) (Or.inl ⟨by kernel_rfl, ?h5⟩) (by assumption) ?r5
  case h5 => (intro w hSw; (try dsimp only at hSw); go_simp; try with_reducible rfl)
  try simp only [Act.put, List.setIfInBounds_toArray, List.set_cons_zero, List.set_cons_succ]
  refine wpAnyH_take (i := 5) (oi := { dst := some 22, op := Go.Op.indexAddr 27 (Go.Operand.tmp 21) (Go.Operand.const (Go.Value.int Go.IntKind.i64 0)), type := 0, pos := "law.go:21", after := #[{ on := 4, ground := Go.Ground.data }, { on := 3, ground := Go.Ground.guard }], guard := some (3, true) }) (v := ?v6) rfl (by kernel_rfl) (by kernel_rfl) (by kernel_rfl) (fun _ _ _ h => h) (Or.inl ⟨by kernel_rfl, ?h6⟩) (by assumption) ?r6
  case h6 => (intro w hSw; (try dsimp only at hSw); go_simp; try with_reducible rfl)
  try simp only [Act.put, List.setIfInBounds_toArray, List.set_cons_zero, List.set_cons_succ]
  refine wpAnyH_take (i := 6) (oi := { dst := some 23, op := Go.Op.load 3 (Go.Operand.tmp 22), type := 3, pos := "law.go:21", after := #[{ on := 5, ground := Go.Ground.data }, { on := 3, ground := Go.Ground.guard }], guard := some (3, true) }) (v := ?v7) rfl (by kernel_rfl) (by kernel_rfl) (by kernel_rfl) (fun _ _ _ h => h) (Or.inl ⟨by kernel_rfl, ?h7⟩) (by assumption) ?r7
  case h7 => (intro w hSw; (try dsimp only at hSw); go_simp; try with_reducible rfl)
  try simp only [Act.put, List.setIfInBounds_toArray, List.set_cons_zero, List.set_cons_succ]
  refine wpAnyH_take (i := 7) (oi := { dst := some 24, op := Go.Op.binOp Go.BinOp.eql 3 (Go.Operand.tmp 23) (Go.Operand.const (Go.Value.int Go.IntKind.i64 1)) 3, type := 4, pos := "law.go:21", after := #[{ on := 6, ground := Go.Ground.data }, { on := 3, ground := Go.Ground.guard }], guard := some (3, true) }) (v := ?v8) rfl (by kernel_rfl) (by kernel_rfl) (by kernel_rfl) (fun _ _ _ h => h) (Or.inl ⟨by kernel_rfl, ?h8⟩) (by assumption) ?r8
  case h8 => (intro w hSw; (try dsimp only at hSw); go_simp; try with_reducible rfl)
  try simp only [Act.put, List.setIfInBounds_toArray, List.set_cons_zero, List.set_cons_succ]
  refine wpAnyH_take (i := 8) (oi := { dst := some 25, op := Go.Op.pick (Go.Operand.tmp 20) (Go.Operand.tmp 24) (Go.Operand.const (Go.Value.bool false)), type := 4, pos := "law.go:21", after := #[{ on := 3, ground := Go.Ground.data }, { on := 7, ground := Go.Ground.data }], guard := none }) (v := ?v9) rfl (by kernel_rfl) (by kernel_rfl) (by kernel_rfl) (fun _ _ _ h => h) (Or.inl ⟨by kernel_rfl, ?h9⟩) (by assumption) ?r9
  case h9 => (intro w hSw; (try dsimp only at hSw); go_simp; try with_reducible rfl)
  try simp only [Act.put, List.setIfInBounds_toArray, List.set_cons_zero, List.set_cons_succ]
  refine wpAnyH_take (i := 9) (oi := { dst := some 26, op := Go.Op.move (Go.Operand.tmp 25), type := 4, pos := "law.go:21", after := #[{ on := 8, ground := Go.Ground.data }, { on := 3, ground := Go.Ground.chain }], guard := none }) (v := ?v10) rfl (by kernel_rfl) (by kernel_rfl) (by kernel_rfl) (fun _ _ _ h => h) (Or.inl ⟨by kernel_rfl, ?h10⟩) (by assumption) ?r10
  case h10 => (intro w hSw; (try dsimp only at hSw); go_simp; try with_reducible rfl)
  try simp only [Act.put, List.setIfInBounds_toArray, List.set_cons_zero, List.set_cons_succ]
  refine wpAnyH_take (i := 10) (oi := { dst := some 27, op := Go.Op.move (Go.Operand.tmp 3), type := 27, pos := "law.go:21", after := #[{ on := 9, ground := Go.Ground.guard }], guard := some (9, true) }) (v := ?v11) rfl (by kernel_rfl) (by kernel_rfl) (by kernel_rfl) (fun _ _ _ h => h) (Or.inl ⟨by kernel_rfl, ?h11⟩) (by assumption) ?r11
  case h11 => (intro w hSw; (try dsimp only at hSw); go_simp; try with_reducible rfl)
  try simp only [Act.put, List.setIfInBounds_toArray, List.set_cons_zero, List.set_cons_succ]
  refine wpAnyH_take (i := 11) (oi := { dst := some 28, op := Go.Op.indexAddr 27 (Go.Operand.tmp 27) (Go.Operand.const (Go.Value.int Go.IntKind.i64 1)), type := 0, pos := "law.go:21", after := #[{ on := 10, ground := Go.Ground.data }, { on := 9, ground := Go.Ground.guard }], guard := some (9, true) }) (v := ?v12) rfl (by kernel_rfl) (by kernel_rfl) (by kernel_rfl) (fun _ _ _ h => h) (Or.inl ⟨by kernel_rfl, ?h12⟩) (by assumption) ?r12
  case h12 => (intro w hSw; (try dsimp only at hSw); go_simp; try with_reducible rfl)
  try simp only [Act.put, List.setIfInBounds_toArray, List.set_cons_zero, List.set_cons_succ]
  refine wpAnyH_take (i := 12) (oi := { dst := some 29, op := Go.Op.load 3 (Go.Operand.tmp 28), type := 3, pos := "law.go:21", after := #[{ on := 11, ground := Go.Ground.data }, { on := 9, ground := Go.Ground.guard }], guard := some (9, true) }) (v := ?v13) rfl (by kernel_rfl) (by kernel_rfl) (by kernel_rfl) (fun _ _ _ h => h) (Or.inl ⟨by kernel_rfl, ?h13⟩) (by assumption) ?r13
  case h13 => (intro w hSw; (try dsimp only at hSw); go_simp; try with_reducible rfl)
  try simp only [Act.put, List.setIfInBounds_toArray, List.set_cons_zero, List.set_cons_succ]
  refine wpAnyH_take (i := 13) (oi := { dst := some 30, op := Go.Op.binOp Go.BinOp.eql 3 (Go.Operand.tmp 29) (Go.Operand.const (Go.Value.int Go.IntKind.i64 0)) 3, type := 4, pos := "law.go:21", after := #[{ on := 12, ground := Go.Ground.data }, { on := 9, ground := Go.Ground.guard }], guard := some (9, true) }) (v := ?v14) rfl (by kernel_rfl) (by kernel_rfl) (by kernel_rfl) (fun _ _ _ h => h) (Or.inl ⟨by kernel_rfl, ?h14⟩) (by assumption) ?r14
  case h14 => (intro w hSw; (try dsimp only at hSw); go_simp; try with_reducible rfl)
  try simp only [Act.put, List.setIfInBounds_toArray, List.set_cons_zero, List.set_cons_succ]
  refine wpAnyH_take (i := 14) (oi := { dst := some 31, op := Go.Op.pick (Go.Operand.tmp 26) (Go.Operand.tmp 30) (Go.Operand.const (Go.Value.bool false)), type := 4, pos := "law.go:21", after := #[{ on := 9, ground := Go.Ground.data }, { on := 13, ground := Go.Ground.data }], guard := none }) (v := ?v15) rfl (by kernel_rfl) (by kernel_rfl) (by kernel_rfl) (fun _ _ _ h => h) (Or.inl ⟨by kernel_rfl, ?h15⟩) (by assumption) ?r15
  case h15 => (intro w hSw; (try dsimp only at hSw); go_simp; try with_reducible rfl)
  try simp only [Act.put, List.setIfInBounds_toArray, List.set_cons_zero, List.set_cons_succ]
  refine wpAnyH_take (i := 15) (oi := { dst := some 32, op := Go.Op.move (Go.Operand.tmp 31), type := 4, pos := "law.go:21", after := #[{ on := 14, ground := Go.Ground.data }, { on := 9, ground := Go.Ground.chain }], guard := none }) (v := ?v16) rfl (by kernel_rfl) (by kernel_rfl) (by kernel_rfl) (fun _ _ _ h => h) (Or.inl ⟨by kernel_rfl, ?h16⟩) (by assumption) ?r16
  case h16 => (intro w hSw; (try dsimp only at hSw); go_simp; try with_reducible rfl)
  try simp only [Act.put, List.setIfInBounds_toArray, List.set_cons_zero, List.set_cons_succ]
  refine wpAnyH_take (i := 16) (oi := { dst := some 33, op := Go.Op.move (Go.Operand.tmp 4), type := 36, pos := "law.go:21", after := #[{ on := 15, ground := Go.Ground.guard }], guard := some (15, true) }) (v := ?v17) rfl (by kernel_rfl) (by kernel_rfl) (by kernel_rfl) (fun _ _ _ h => h) (Or.inl ⟨by kernel_rfl, ?h17⟩) (by assumption) ?r17
  case h17 => (intro w hSw; (try dsimp only at hSw); go_simp; try with_reducible rfl)
  try simp only [Act.put, List.setIfInBounds_toArray, List.set_cons_zero, List.set_cons_succ]
  refine wpAnyH_take (i := 17) (oi := { dst := some 34, op := Go.Op.call { callee := Go.Callee.builtin Go.Builtin.len, args := #[Go.Operand.tmp 33], argTypes := #[36] }, type := 3, pos := "law.go:21", after := #[{ on := 16, ground := Go.Ground.data }, { on := 15, ground := Go.Ground.guard }], guard := some (15, true) }) (v := ?v18) rfl (by kernel_rfl) (by kernel_rfl) (by kernel_rfl) (fun _ _ _ h => h) (Or.inl ⟨by kernel_rfl, ?h18⟩) (by assumption) ?r18
  case h18 => (intro w hSw; (try dsimp only at hSw); go_simp; try with_reducible rfl)
  try simp only [Act.put, List.setIfInBounds_toArray, List.set_cons_zero, List.set_cons_succ]
  refine wpAnyH_take (i := 18) (oi := { dst := some 35, op := Go.Op.binOp Go.BinOp.eql 3 (Go.Operand.tmp 34) (Go.Operand.const (Go.Value.int Go.IntKind.i64 2)) 3, type := 4, pos := "law.go:21", after := #[{ on := 17, ground := Go.Ground.data }, { on := 15, ground := Go.Ground.guard }], guard := some (15, true) }) (v := ?v19) rfl (by kernel_rfl) (by kernel_rfl) (by kernel_rfl) (fun _ _ _ h => h) (Or.inl ⟨by kernel_rfl, ?h19⟩) (by assumption) ?r19
  case h19 => (intro w hSw; (try dsimp only at hSw); go_simp; try with_reducible rfl)
  try simp only [Act.put, List.setIfInBounds_toArray, List.set_cons_zero, List.set_cons_succ]
  refine wpAnyH_take (i := 19) (oi := { dst := some 36, op := Go.Op.pick (Go.Operand.tmp 32) (Go.Operand.tmp 35) (Go.Operand.const (Go.Value.bool false)), type := 4, pos := "law.go:21", after := #[{ on := 15, ground := Go.Ground.data }, { on := 18, ground := Go.Ground.data }], guard := none }) (v := ?v20) rfl (by kernel_rfl) (by kernel_rfl) (by kernel_rfl) (fun _ _ _ h => h) (Or.inl ⟨by kernel_rfl, ?h20⟩) (by assumption) ?r20
  case h20 => (intro w hSw; (try dsimp only at hSw); go_simp; try with_reducible rfl)
  try simp only [Act.put, List.setIfInBounds_toArray, List.set_cons_zero, List.set_cons_succ]
  refine wpAnyH_take (i := 20) (oi := { dst := some 37, op := Go.Op.move (Go.Operand.tmp 36), type := 4, pos := "law.go:21", after := #[{ on := 19, ground := Go.Ground.data }, { on := 15, ground := Go.Ground.chain }], guard := none }) (v := ?v21) rfl (by kernel_rfl) (by kernel_rfl) (by kernel_rfl) (fun _ _ _ h => h) (Or.inl ⟨by kernel_rfl, ?h21⟩) (by assumption) ?r21
  case h21 => (intro w hSw; (try dsimp only at hSw); go_simp; try with_reducible rfl)
  try simp only [Act.put, List.setIfInBounds_toArray, List.set_cons_zero, List.set_cons_succ]
  refine wpAnyH_take (i := 21) (oi := { dst := some 38, op := Go.Op.move (Go.Operand.tmp 4), type := 36, pos := "law.go:21", after := #[{ on := 20, ground := Go.Ground.guard }], guard := some (20, true) }) (v := ?v22) rfl (by kernel_rfl) (by kernel_rfl) (by kernel_rfl) (fun _ _ _ h => h) (Or.inl ⟨by kernel_rfl, ?h22⟩) (by assumption) ?r22
  case h22 => (intro w hSw; (try dsimp only at hSw); go_simp; try with_reducible rfl)
  try simp only [Act.put, List.setIfInBounds_toArray, List.set_cons_zero, List.set_cons_succ]
  refine wpAnyH_take (i := 22) (oi := { dst := some 39, op := Go.Op.indexAddr 36 (Go.Operand.tmp 38) (Go.Operand.const (Go.Value.int Go.IntKind.i64 0)), type := 0, pos := "law.go:21", after := #[{ on := 21, ground := Go.Ground.data }, { on := 20, ground := Go.Ground.guard }], guard := some (20, true) }) (v := ?v23) rfl (by kernel_rfl) (by kernel_rfl) (by kernel_rfl) (fun _ _ _ h => h) (Or.inl ⟨by kernel_rfl, ?h23⟩) (by assumption) ?r23
  case h23 => (intro w hSw; (try dsimp only at hSw); go_simp; try with_reducible rfl)
  try simp only [Act.put, List.setIfInBounds_toArray, List.set_cons_zero, List.set_cons_succ]
  refine wpAnyH_take (i := 23) (oi := { dst := some 40, op := Go.Op.load 29 (Go.Operand.tmp 39), type := 29, pos := "law.go:21", after := #[{ on := 22, ground := Go.Ground.data }, { on := 20, ground := Go.Ground.guard }], guard := some (20, true) }) (v := ?v24) rfl (by kernel_rfl) (by kernel_rfl) (by kernel_rfl) (fun _ _ _ h => h) (Or.inl ⟨by kernel_rfl, ?h24⟩) (by assumption) ?r24
  case h24 => (intro w hSw; (try dsimp only at hSw); go_simp; try with_reducible rfl)
  try simp only [Act.put, List.setIfInBounds_toArray, List.set_cons_zero, List.set_cons_succ]
  refine wpAnyH_take (i := 24) (oi := { dst := some 41, op := Go.Op.load 24 (Go.Operand.tmp 2), type := 24, pos := "law.go:21", after := #[{ on := 20, ground := Go.Ground.guard }], guard := some (20, true) }) (v := ?v25) rfl (by kernel_rfl) (by kernel_rfl) (by kernel_rfl) (fun _ _ _ h => h) (Or.inl ⟨by kernel_rfl, ?h25⟩) (by assumption) ?r25
  case h25 => (intro w hSw; (try dsimp only at hSw); go_simp; try with_reducible rfl)
  try simp only [Act.put, List.setIfInBounds_toArray, List.set_cons_zero, List.set_cons_succ]
  refine wpAnyH_ready (rs := [25]) (by kernel_rfl) (by simp) ?_
  refine AllReadyH.cons (o := { dst := some 42, op := Go.Op.call { callee := Go.Callee.value (Go.Operand.func 10), args := #[Go.Operand.tmp 41, Go.Operand.const (Go.Value.int Go.IntKind.i64 1)], argTypes := #[24, 3] }, type := 29, pos := "law.go:21", after := #[{ on := 24, ground := Go.Ground.data }, { on := 20, ground := Go.Ground.chain }, { on := 20, ground := Go.Ground.guard }], guard := some (20, true) }) rfl (fun K hK => ?_) AllReadyH.nil
  go_simp
  with_reducible refine (q3.out _).mono ?_
  rintro e w6 ⟨rfl, b6⟩
  go_simp
  refine hK.out _ _ (hHeld.trans (b6.mono hHeld.size)) (fun hHeld => ?_)
  clear hK K
  try simp only [Act.put, List.setIfInBounds_toArray, List.set_cons_zero, List.set_cons_succ]
  refine wpAnyH_take (i := 26) (oi := { dst := some 43, op := Go.Op.binOp Go.BinOp.eql 29 (Go.Operand.tmp 40) (Go.Operand.tmp 42) 29, type := 4, pos := "law.go:21", after := #[{ on := 23, ground := Go.Ground.data }, { on := 25, ground := Go.Ground.data }, { on := 20, ground := Go.Ground.guard }], guard := some (20, true) }) (v := ?v26) rfl (by kernel_rfl) (by kernel_rfl) (by kernel_rfl) (fun _ _ _ h => h) (Or.inl ⟨by kernel_rfl, ?h26⟩) (by assumption) ?r26
  case h26 => (intro w hSw; (try dsimp only at hSw); go_simp; try with_reducible rfl)
  try simp only [Act.put, List.setIfInBounds_toArray, List.set_cons_zero, List.set_cons_succ]
  refine wpAnyH_take (i := 27) (oi := { dst := some 44, op := Go.Op.pick (Go.Operand.tmp 37) (Go.Operand.tmp 43) (Go.Operand.const (Go.Value.bool false)), type := 4, pos := "law.go:21", after := #[{ on := 20, ground := Go.Ground.data }, { on := 26, ground := Go.Ground.data }], guard := none }) (v := ?v27) rfl (by kernel_rfl) (by kernel_rfl) (by kernel_rfl) (fun _ _ _ h => h) (Or.inl ⟨by kernel_rfl, ?h27⟩) (by assumption) ?r27
  case h27 => (intro w hSw; (try dsimp only at hSw); go_simp; try with_reducible rfl)
  try simp only [Act.put, List.setIfInBounds_toArray, List.set_cons_zero, List.set_cons_succ]
  refine wpAnyH_take (i := 28) (oi := { dst := some 45, op := Go.Op.move (Go.Operand.tmp 44), type := 4, pos := "law.go:21", after := #[{ on := 27, ground := Go.Ground.data }, { on := 25, ground := Go.Ground.chain }], guard := none }) (v := ?v28) rfl (by kernel_rfl) (by kernel_rfl) (by kernel_rfl) (fun _ _ _ h => h) (Or.inl ⟨by kernel_rfl, ?h28⟩) (by assumption) ?r28
  case h28 => (intro w hSw; (try dsimp only at hSw); go_simp; try with_reducible rfl)
  try simp only [Act.put, List.setIfInBounds_toArray, List.set_cons_zero, List.set_cons_succ]
  refine wpAnyH_take (i := 29) (oi := { dst := some 46, op := Go.Op.move (Go.Operand.tmp 4), type := 36, pos := "law.go:21", after := #[{ on := 28, ground := Go.Ground.guard }], guard := some (28, true) }) (v := ?v29) rfl (by kernel_rfl) (by kernel_rfl) (by kernel_rfl) (fun _ _ _ h => h) (Or.inl ⟨by kernel_rfl, ?h29⟩) (by assumption) ?r29
  case h29 => (intro w hSw; (try dsimp only at hSw); go_simp; try with_reducible rfl)
  try simp only [Act.put, List.setIfInBounds_toArray, List.set_cons_zero, List.set_cons_succ]
  refine wpAnyH_take (i := 30) (oi := { dst := some 47, op := Go.Op.indexAddr 36 (Go.Operand.tmp 46) (Go.Operand.const (Go.Value.int Go.IntKind.i64 1)), type := 0, pos := "law.go:21", after := #[{ on := 29, ground := Go.Ground.data }, { on := 28, ground := Go.Ground.guard }], guard := some (28, true) }) (v := ?v30) rfl (by kernel_rfl) (by kernel_rfl) (by kernel_rfl) (fun _ _ _ h => h) (Or.inl ⟨by kernel_rfl, ?h30⟩) (by assumption) ?r30
  case h30 => (intro w hSw; (try dsimp only at hSw); go_simp; try with_reducible rfl)
  try simp only [Act.put, List.setIfInBounds_toArray, List.set_cons_zero, List.set_cons_succ]
  refine wpAnyH_take (i := 31) (oi := { dst := some 48, op := Go.Op.load 29 (Go.Operand.tmp 47), type := 29, pos := "law.go:21", after := #[{ on := 30, ground := Go.Ground.data }, { on := 28, ground := Go.Ground.guard }], guard := some (28, true) }) (v := ?v31) rfl (by kernel_rfl) (by kernel_rfl) (by kernel_rfl) (fun _ _ _ h => h) (Or.inl ⟨by kernel_rfl, ?h31⟩) (by assumption) ?r31
  case h31 => (intro w hSw; (try dsimp only at hSw); go_simp; try with_reducible rfl)
  try simp only [Act.put, List.setIfInBounds_toArray, List.set_cons_zero, List.set_cons_succ]
  refine wpAnyH_take (i := 32) (oi := { dst := some 49, op := Go.Op.load 24 (Go.Operand.tmp 1), type := 24, pos := "law.go:21", after := #[{ on := 28, ground := Go.Ground.guard }], guard := some (28, true) }) (v := ?v32) rfl (by kernel_rfl) (by kernel_rfl) (by kernel_rfl) (fun _ _ _ h => h) (Or.inl ⟨by kernel_rfl, ?h32⟩) (by assumption) ?r32
  case h32 => (intro w hSw; (try dsimp only at hSw); go_simp; try with_reducible rfl)
  try simp only [Act.put, List.setIfInBounds_toArray, List.set_cons_zero, List.set_cons_succ]
  refine wpAnyH_ready (rs := [33]) (by kernel_rfl) (by simp) ?_
  refine AllReadyH.cons (o := { dst := some 50, op := Go.Op.call { callee := Go.Callee.value (Go.Operand.func 10), args := #[Go.Operand.tmp 49, Go.Operand.const (Go.Value.int Go.IntKind.i64 0)], argTypes := #[24, 3] }, type := 29, pos := "law.go:21", after := #[{ on := 32, ground := Go.Ground.data }, { on := 28, ground := Go.Ground.chain }, { on := 28, ground := Go.Ground.guard }], guard := some (28, true) }) rfl (fun K hK => ?_) AllReadyH.nil
  go_simp
  with_reducible refine (q4.out _).mono ?_
  rintro e w7 ⟨rfl, b7⟩
  go_simp
  refine hK.out _ _ (hHeld.trans (b7.mono hHeld.size)) (fun hHeld => ?_)
  clear hK K
  try simp only [Act.put, List.setIfInBounds_toArray, List.set_cons_zero, List.set_cons_succ]
  refine wpAnyH_take (i := 34) (oi := { dst := some 51, op := Go.Op.binOp Go.BinOp.eql 29 (Go.Operand.tmp 48) (Go.Operand.tmp 50) 29, type := 4, pos := "law.go:21", after := #[{ on := 31, ground := Go.Ground.data }, { on := 33, ground := Go.Ground.data }, { on := 28, ground := Go.Ground.guard }], guard := some (28, true) }) (v := ?v33) rfl (by kernel_rfl) (by kernel_rfl) (by kernel_rfl) (fun _ _ _ h => h) (Or.inl ⟨by kernel_rfl, ?h33⟩) (by assumption) ?r33
  case h33 => (intro w hSw; (try dsimp only at hSw); go_simp; try with_reducible rfl)
  try simp only [Act.put, List.setIfInBounds_toArray, List.set_cons_zero, List.set_cons_succ]
  refine wpAnyH_take (i := 35) (oi := { dst := some 52, op := Go.Op.pick (Go.Operand.tmp 45) (Go.Operand.tmp 51) (Go.Operand.const (Go.Value.bool false)), type := 4, pos := "law.go:21", after := #[{ on := 28, ground := Go.Ground.data }, { on := 34, ground := Go.Ground.data }], guard := none }) (v := ?v34) rfl (by kernel_rfl) (by kernel_rfl) (by kernel_rfl) (fun _ _ _ h => h) (Or.inl ⟨by kernel_rfl, ?h34⟩) (by assumption) ?r34
  case h34 => (intro w hSw; (try dsimp only at hSw); go_simp; try with_reducible rfl)
  try simp only [Act.put, List.setIfInBounds_toArray, List.set_cons_zero, List.set_cons_succ]
  refine wpAnyH_take (i := 36) (oi := { dst := some 53, op := Go.Op.move (Go.Operand.tmp 52), type := 4, pos := "law.go:21", after := #[{ on := 35, ground := Go.Ground.data }, { on := 33, ground := Go.Ground.chain }], guard := none }) (v := ?v35) rfl (by kernel_rfl) (by kernel_rfl) (by kernel_rfl) (fun _ _ _ h => h) (Or.inl ⟨by kernel_rfl, ?h35⟩) (by assumption) ?r35
  case h35 => (intro w hSw; (try dsimp only at hSw); go_simp; try with_reducible rfl)
  try simp only [Act.put, List.setIfInBounds_toArray, List.set_cons_zero, List.set_cons_succ]
  refine wpAnyH_take (i := 37) (oi := { dst := some 54, op := Go.Op.move (Go.Operand.tmp 4), type := 36, pos := "law.go:21", after := #[{ on := 36, ground := Go.Ground.guard }], guard := some (36, true) }) (v := ?v36) rfl (by kernel_rfl) (by kernel_rfl) (by kernel_rfl) (fun _ _ _ h => h) (Or.inl ⟨by kernel_rfl, ?h36⟩) (by assumption) ?r36
  case h36 => (intro w hSw; (try dsimp only at hSw); go_simp; try with_reducible rfl)
  try simp only [Act.put, List.setIfInBounds_toArray, List.set_cons_zero, List.set_cons_succ]
  refine wpAnyH_take (i := 38) (oi := { dst := some 55, op := Go.Op.indexAddr 36 (Go.Operand.tmp 54) (Go.Operand.const (Go.Value.int Go.IntKind.i64 0)), type := 0, pos := "law.go:21", after := #[{ on := 37, ground := Go.Ground.data }, { on := 36, ground := Go.Ground.guard }], guard := some (36, true) }) (v := ?v37) rfl (by kernel_rfl) (by kernel_rfl) (by kernel_rfl) (fun _ _ _ h => h) (Or.inl ⟨by kernel_rfl, ?h37⟩) (by assumption) ?r37
  case h37 => (intro w hSw; (try dsimp only at hSw); go_simp; try with_reducible rfl)
  try simp only [Act.put, List.setIfInBounds_toArray, List.set_cons_zero, List.set_cons_succ]
  refine wpAnyH_take (i := 39) (oi := { dst := some 56, op := Go.Op.load 29 (Go.Operand.tmp 55), type := 29, pos := "law.go:21", after := #[{ on := 38, ground := Go.Ground.data }, { on := 36, ground := Go.Ground.guard }], guard := some (36, true) }) (v := ?v38) rfl (by kernel_rfl) (by kernel_rfl) (by kernel_rfl) (fun _ _ _ h => h) (Or.inl ⟨by kernel_rfl, ?h38⟩) (by assumption) ?r38
  case h38 => (intro w hSw; (try dsimp only at hSw); go_simp; try with_reducible rfl)
  try simp only [Act.put, List.setIfInBounds_toArray, List.set_cons_zero, List.set_cons_succ]
  refine wpAnyH_take (i := 40) (oi := { dst := some 57, op := Go.Op.move (Go.Operand.tmp 4), type := 36, pos := "law.go:21", after := #[{ on := 36, ground := Go.Ground.guard }], guard := some (36, true) }) (v := ?v39) rfl (by kernel_rfl) (by kernel_rfl) (by kernel_rfl) (fun _ _ _ h => h) (Or.inl ⟨by kernel_rfl, ?h39⟩) (by assumption) ?r39
  case h39 => (intro w hSw; (try dsimp only at hSw); go_simp; try with_reducible rfl)
  try simp only [Act.put, List.setIfInBounds_toArray, List.set_cons_zero, List.set_cons_succ]
  refine wpAnyH_take (i := 41) (oi := { dst := some 58, op := Go.Op.indexAddr 36 (Go.Operand.tmp 57) (Go.Operand.const (Go.Value.int Go.IntKind.i64 1)), type := 0, pos := "law.go:21", after := #[{ on := 40, ground := Go.Ground.data }, { on := 36, ground := Go.Ground.guard }], guard := some (36, true) }) (v := ?v40) rfl (by kernel_rfl) (by kernel_rfl) (by kernel_rfl) (fun _ _ _ h => h) (Or.inl ⟨by kernel_rfl, ?h40⟩) (by assumption) ?r40
  case h40 => (intro w hSw; (try dsimp only at hSw); go_simp; try with_reducible rfl)
  try simp only [Act.put, List.setIfInBounds_toArray, List.set_cons_zero, List.set_cons_succ]
  refine wpAnyH_take (i := 42) (oi := { dst := some 59, op := Go.Op.load 29 (Go.Operand.tmp 58), type := 29, pos := "law.go:21", after := #[{ on := 41, ground := Go.Ground.data }, { on := 36, ground := Go.Ground.guard }], guard := some (36, true) }) (v := ?v41) rfl (by kernel_rfl) (by kernel_rfl) (by kernel_rfl) (fun _ _ _ h => h) (Or.inl ⟨by kernel_rfl, ?h41⟩) (by assumption) ?r41
  case h41 => (intro w hSw; (try dsimp only at hSw); go_simp; try with_reducible rfl)
  try simp only [Act.put, List.setIfInBounds_toArray, List.set_cons_zero, List.set_cons_succ]
  refine wpAnyH_take (i := 43) (oi := { dst := some 60, op := Go.Op.binOp Go.BinOp.neq 29 (Go.Operand.tmp 56) (Go.Operand.tmp 59) 29, type := 4, pos := "law.go:21", after := #[{ on := 39, ground := Go.Ground.data }, { on := 42, ground := Go.Ground.data }, { on := 36, ground := Go.Ground.guard }], guard := some (36, true) }) (v := ?v42) rfl (by kernel_rfl) (by kernel_rfl) (by kernel_rfl) (fun _ _ _ h => h) (Or.inl ⟨by kernel_rfl, ?h42⟩) (by assumption) ?r42
  case h42 => (intro w hSw; (try dsimp only at hSw); go_simp; try with_reducible rfl)
  try simp only [Act.put, List.setIfInBounds_toArray, List.set_cons_zero, List.set_cons_succ]
  refine wpAnyH_take (i := 44) (oi := { dst := some 61, op := Go.Op.pick (Go.Operand.tmp 53) (Go.Operand.tmp 60) (Go.Operand.const (Go.Value.bool false)), type := 4, pos := "law.go:21", after := #[{ on := 36, ground := Go.Ground.data }, { on := 43, ground := Go.Ground.data }], guard := none }) (v := ?v43) rfl (by kernel_rfl) (by kernel_rfl) (by kernel_rfl) (fun _ _ _ h => h) (Or.inl ⟨by kernel_rfl, ?h43⟩) (by assumption) ?r43
  case h43 => (intro w hSw; (try dsimp only at hSw); go_simp; try with_reducible rfl)
  try simp only [Act.put, List.setIfInBounds_toArray, List.set_cons_zero, List.set_cons_succ]
  refine wpAnyH_take (i := 45) (oi := { dst := some 0, op := Go.Op.assign (Go.Operand.tmp 61), type := 4, pos := "law.go:21", after := #[{ on := 44, ground := Go.Ground.data }, { on := 36, ground := Go.Ground.chain }, { on := 0, ground := Go.Ground.phase }, { on := 1, ground := Go.Ground.phase }, { on := 2, ground := Go.Ground.phase }, { on := 3, ground := Go.Ground.phase }, { on := 4, ground := Go.Ground.phase }, { on := 5, ground := Go.Ground.phase }, { on := 6, ground := Go.Ground.phase }, { on := 7, ground := Go.Ground.phase }, { on := 8, ground := Go.Ground.phase }, { on := 9, ground := Go.Ground.phase }, { on := 10, ground := Go.Ground.phase }, { on := 11, ground := Go.Ground.phase }, { on := 12, ground := Go.Ground.phase }, { on := 13, ground := Go.Ground.phase }, { on := 14, ground := Go.Ground.phase }, { on := 15, ground := Go.Ground.phase }, { on := 16, ground := Go.Ground.phase }, { on := 17, ground := Go.Ground.phase }, { on := 18, ground := Go.Ground.phase }, { on := 19, ground := Go.Ground.phase }, { on := 20, ground := Go.Ground.phase }, { on := 21, ground := Go.Ground.phase }, { on := 22, ground := Go.Ground.phase }, { on := 23, ground := Go.Ground.phase }, { on := 24, ground := Go.Ground.phase }, { on := 25, ground := Go.Ground.phase }, { on := 26, ground := Go.Ground.phase }, { on := 27, ground := Go.Ground.phase }, { on := 28, ground := Go.Ground.phase }, { on := 29, ground := Go.Ground.phase }, { on := 30, ground := Go.Ground.phase }, { on := 31, ground := Go.Ground.phase }, { on := 32, ground := Go.Ground.phase }, { on := 33, ground := Go.Ground.phase }, { on := 34, ground := Go.Ground.phase }, { on := 35, ground := Go.Ground.phase }, { on := 36, ground := Go.Ground.phase }, { on := 37, ground := Go.Ground.phase }, { on := 38, ground := Go.Ground.phase }, { on := 39, ground := Go.Ground.phase }, { on := 40, ground := Go.Ground.phase }, { on := 41, ground := Go.Ground.phase }, { on := 42, ground := Go.Ground.phase }, { on := 43, ground := Go.Ground.phase }, { on := 44, ground := Go.Ground.phase }], guard := none }) (v := ?v44) rfl (by kernel_rfl) (by kernel_rfl) (by kernel_rfl) (fun _ _ _ h => h) (Or.inl ⟨by kernel_rfl, ?h44⟩) (by assumption) ?r44
  case h44 => (intro w hSw; (try dsimp only at hSw); go_simp; try with_reducible rfl)
  try simp only [Act.put, List.setIfInBounds_toArray, List.set_cons_zero, List.set_cons_succ]
  refine wpAnyH_done (by kernel_rfl) ?_ _
  have hX := Lib.hid hHeld
  clear hHeld
  go_wp2
  go_ret
  exact ⟨rfl, B1.out.trans (hX.out.mono B1.out.size)⟩
end Go.Proofs.Ytbpaoiajfjkmfaa
namespace Go.Proofs.Ytbpaoiajfjkmfaa
open Go.RowKit
set_option linter.unusedVariables false
set_option linter.unusedSimpArgs false
theorem infoAl : (Try.prog.info? 24).map (fun i => (i.zero.map fun z => z.cells.size, i.size, i.bytes)) = some (some 6, 6, 72) := by kernel_rfl
theorem infoAlZ : ∃ i z, Try.prog.info? 24 = some i ∧ i.zero = some z ∧ i.size = 6 ∧ i.bytes = 72 ∧ z.cells.size = 6 := by
  have h := infoAl
  cases hi : Try.prog.info? 24 with
  | none => rw [hi] at h; simp at h
  | some i =>
    rw [hi] at h
    simp at h
    obtain ⟨⟨z, hz, h1⟩, h2, h3⟩ := h
    exact ⟨i, z, rfl, hz, h2, h3, h1⟩
def alcells (l : List AlD) : List Value := l.flatMap alC
theorem alcells_snoc (l : List AlD) (x : AlD) : alcells (l ++ [x]) = alcells l ++ alC x := by simp [alcells]
theorem alcells_one {l : List AlD} {u : Value} (h : u ∈ alcells l) : u.oneCell' = true := by
  obtain ⟨a, _, ha⟩ := List.mem_flatMap.1 h
  simp [alC] at ha
  rcases ha with rfl | rfl | rfl | rfl | rfl | rfl <;> rfl
theorem ro_own {w : World} {base : Nat} {e : TypeId} {v : Value} {n : Nat} {l : List AlD} (h : w.ownsRow base e 6 v n (alcells l)) : ∃ a c, v = .slice a n c ∧ RO alC w a n c l := by
  have hl := h.1
  have h2 := flat_len alC_len l
  unfold alcells at hl
  obtain ⟨a, c, rfl, h3, h4, h5⟩ := seesC_own h
  exact ⟨a, c, rfl, ⟨by omega, h3, h4, h5⟩⟩
theorem wpList_append_al {ops : Array Oper} {rest : List Oper} {o : Oper} {a : Act} {Q : Exit → Act → World → Prop} (w : World) (hg : o.guard = none) (s x : Operand) (hop : o.op = Op.call { callee := Callee.builtin Builtin.append, args := #[s, x], argTypes := #[22, 22] })
    (w0 : World) (v : Value) (n : Nat) (l : List AlD) (hown : w.ownsRow w0.heap.size 24 6 v n (alcells l)) (hb : Below w0.heap.size w0 w) (y : AlD)
    (hsv : a.eval s = v) (hg2 : Nat) (hx : a.eval x = .slice (some ⟨hg2, 0, none⟩) 1 1) (hh : hg2 = w.heap.size) (hn : n ≤ 1000000)
    (hK : ∀ v' w', w'.ownsRow w0.heap.size 24 6 v' (n + 1) (alcells (l ++ [y])) → Below w0.heap.size w0 w' → wpList Try.prog ops Q rest (a.put o.dst v') w') :
    wpList Try.prog ops Q (o :: rest) a (w.alloc (.cells #[.int .i64 y.kind, .int .i64 y.sev, .string y.fn, .string y.file, .int .i64 y.line, .string y.expr] 24)) := by
  subst hh
  obtain ⟨i0, z0, hi, hz, h6, h72, hz6⟩ := infoAlZ
  have hb1 := box_below w #[.int .i64 y.kind, .int .i64 y.sev, .string y.fn, .string y.file, .int .i64 y.line, .string y.expr] 24
  refine wpList_append_cellsB _ hg s x 22 hop w0 24 i0 z0 6 72 Try.underlying22 hi hz h6 h72 hz6 (by omega) v n (alcells l) (own_below hown hb1) (hb.trans (hb1.mono hb.size)) _ _ 1 1 (alC y) rfl (seesC_lit w 24 _) (fun u hu => alcells_one (l := [y]) (by simpa [alcells] using hu)) hsv hx (by unfold maxLen; omega) (by omega) ?_
  intro v' w' h1 h2
  exact hK v' w' (by rw [alcells_snoc]; exact h1) h2
theorem own_al_nil (w : World) (base : Nat) : w.ownsRow base 24 6 (.slice none 0 0) 0 (alcells []) := ⟨by simp [alcells], .inl ⟨rfl, rfl⟩⟩
end Go.Proofs.Ytbpaoiajfjkmfaa
