/-
  Words and walks under the law's proof.
-/
import Derived.Laws.CopyRow
import Derived.Laws.Tables
import Derived.Test.YtbpaoiajfjkmfaaQT02
import Derived.Test.YtbpaoiajfjkmfaaQT04
namespace Go.Proofs.Ytbpaoiajfjkmfaa
open Go.RowKit
set_option linter.unusedVariables false
set_option linter.unusedSimpArgs false
theorem infoAl : (Try.prog.info? 24).map (fun i => (i.zero.map fun z => z.cells.size, i.size, i.bytes)) = some (some 6, 6, 72) := by kernel_rfl
theorem infoAlZ : ∃ i z, Try.prog.info? 24 = some i ∧ i.zero = some z ∧ i.size = 6 ∧ i.bytes = 72 ∧ z.cells.size = 6 := by
  have h := infoAl
  cases hi : Try.prog.info? 24 with
  | none => rw [hi] at h; simp at h
  | some i =>
    rw [hi] at h
    simp at h
    obtain ⟨⟨z, hz, h1⟩, h2, h3⟩ := h
    exact ⟨i, z, rfl, hz, h2, h3, h1⟩
def alcells (l : List AlD) : List Value := l.flatMap alC
theorem alcells_one {l : List AlD} {u : Value} (h : u ∈ alcells l) : u.oneCell' = true := by
  obtain ⟨a, _, ha⟩ := List.mem_flatMap.1 h
  simp [alC] at ha
  rcases ha with rfl | rfl | rfl | rfl | rfl | rfl <;> rfl
theorem ro_own {w : World} {base : Nat} {e : TypeId} {v : Value} {n : Nat} {l : List AlD} (h : w.ownsRow base e 6 v n (alcells l)) : ∃ a c, v = .slice a n c ∧ RO alC w a n c l := by
  have hl := h.1
  have h2 := flat_len alC_len l
  unfold alcells at hl
  obtain ⟨a, c, rfl, h3, h4, h5⟩ := seesC_own h
  exact ⟨a, c, rfl, ⟨by omega, h3, h4, h5⟩⟩
theorem alcells_app (A B : List AlD) : alcells (A ++ B) = alcells A ++ alcells B := by simp [alcells]
theorem alcells_len (L : List AlD) : (alcells L).length = L.length * 6 := flat_len alC_len L
theorem alcells_set (L : List AlD) {i : Nat} (hi : i < L.length) (Y : AlD) : alcells (L.set i Y) = (alcells L).take (i * 6) ++ (alC Y ++ (alcells L).drop (i * 6 + 6)) := by
  have e : L = L.take i ++ L[i] :: L.drop (i + 1) := by rw [← List.drop_eq_getElem_cons hi, List.take_append_drop]
  have e2 : L.set i Y = L.take i ++ Y :: L.drop (i + 1) := by rw [List.set_eq_take_append_cons_drop, if_pos hi]
  have l1 : (alcells (L.take i)).length = i * 6 := by rw [alcells_len, List.length_take]; congr 1; omega
  have e3 : alcells L = alcells (L.take i) ++ (alC L[i] ++ alcells (L.drop (i + 1))) := by
    conv => lhs; rw [e]
    rw [alcells_app]
    rfl
  rw [e2, alcells_app, e3, List.take_left' l1]
  have l2 : (alcells (L.take i) ++ alC L[i]).length = i * 6 + 6 := by rw [List.length_append, l1]; rfl
  rw [← List.append_assoc (alcells (L.take i)) (alC L[i]), List.drop_left' l2]
  rfl
theorem own_al_at {w : World} {base g n c : Nat} {l : List AlD} (h : w.ownsRow base 24 6 (.slice (some ⟨g, 0, none⟩) n c) n (alcells l)) {i : Nat} (hi : i < n) :
    w.cell? ⟨g, i * 6, none⟩ = some (.int .i64 (l.getD i al0).kind) ∧ w.cell? ⟨g, i * 6 + 1, none⟩ = some (.int .i64 (l.getD i al0).sev) ∧ w.cell? ⟨g, i * 6 + 2, none⟩ = some (.string (l.getD i al0).fn) ∧ w.cell? ⟨g, i * 6 + 3, none⟩ = some (.string (l.getD i al0).file) ∧ w.cell? ⟨g, i * 6 + 4, none⟩ = some (.int .i64 (l.getD i al0).line) ∧ w.cell? ⟨g, i * 6 + 5, none⟩ = some (.string (l.getD i al0).expr) := by
  have hl := h.1
  rw [alcells_len] at hl
  have key : ∀ j, j < 6 → w.cell? ⟨g, i * 6 + j, none⟩ = (alC (l.getD i al0))[j]? := by
    intro j hj
    have e : (alcells l)[i * 6 + j]? = (alC (l.getD i al0))[j]? := by
      unfold alcells
      rw [flat_at alC_len l i j hj]
      simp [List.getD, show i < l.length by omega]
    have h2 : j < (alC (l.getD i al0)).length := by rw [alC_len]; exact hj
    rw [List.getElem?_eq_getElem h2] at e ⊢
    have q := h.cells (g := g) rfl _ _ e
    rw [add_at, Nat.zero_add] at q
    exact q
  exact ⟨key 0 (by decide), key 1 (by decide), key 2 (by decide), key 3 (by decide), key 4 (by decide), key 5 (by decide)⟩
theorem wpList_store_al {ops : Array Oper} {rest : List Oper} {o : Oper} {a : Act} {w : World} {Q : Exit → Act → World → Prop} (hgd : o.guard = none) (x y : Operand) (ho : o.op = .store 24 x y)
    (base g n c : Nat) (L : List AlD) (hown : w.ownsRow base 24 6 (.slice (some ⟨g, 0, none⟩) n c) n (alcells L)) (i : Nat) (hi : i < n) (Y : AlD)
    (hx : a.eval x = .pointer (some ⟨g, i * 6, none⟩)) (hy : a.eval y = .agg #[.int .i64 Y.kind, .int .i64 Y.sev, .string Y.fn, .string Y.file, .int .i64 Y.line, .string Y.expr])
    (h : ∀ w', w'.ownsRow base 24 6 (.slice (some ⟨g, 0, none⟩) n c) n (alcells (L.set i Y)) → BelowE [g] w.heap.size w w' → w'.heap.size = w.heap.size → wpList Try.prog ops Q rest (a.put o.dst undef) w') : wpList Try.prog ops Q (o :: rest) a w := by
  have hl := hown.1
  rw [alcells_len] at hl
  have hln : L.length = n := by omega
  have hcells : (#[.int .i64 Y.kind, .int .i64 Y.sev, .string Y.fn, .string Y.file, .int .i64 Y.line, .string Y.expr] : Array Value).toList = alC Y := rfl
  rcases hown.2 with ⟨he, _⟩ | ⟨g', cap, cur, he, hbg, hgg, hnc, hcm, hcs, htake⟩
  · injection he with he; cases he
  · injection he with h1 h2 h3
    injection h1 with h1
    injection h1 with h1
    subst h1 h3
    have hst := run_storeCells_at Try.prog g (i * 6) 24 (alC Y) 0 cur w hgg (by rw [hcs, alC_len]; omega) (fun v hv => alcells_one (l := [Y]) (by simpa [alcells] using hv))
    rw [Nat.add_zero, alC_len] at hst
    have hrun : (storeVar 24 ⟨g, i * 6, none⟩ (.agg #[.int .i64 Y.kind, .int .i64 Y.sev, .string Y.fn, .string Y.file, .int .i64 Y.line, .string Y.expr])).run Try.prog w = .ok () (w.setRow g (cur.toList.take (i * 6) ++ alC Y ++ cur.toList.drop (i * 6 + 6)).toArray) := by
      obtain ⟨i0, z0, hi0, hz, h6, h72, hz6⟩ := infoAlZ
      simp [storeVar, sizeOf, typeInfo, hi0, Value.cells, h6]
      have e2 : [Value.int IntKind.i64 Y.kind, Value.int IntKind.i64 Y.sev, Value.string Y.fn, Value.string Y.file, Value.int IntKind.i64 Y.line, Value.string Y.expr] = alC Y := rfl
      rw [e2, hst]
      simp [alC]
    refine wpList_plain hgd fun K hK => ?_
    unfold Oper.wp execOp
    simp only [ho, hx, hy, Instr.storeAt, Instr.sureAddr, Sem.run_bind, Sem.run_pure, Result.andThen_ok, hrun]
    refine hK _ _ (h _ ⟨by rw [alcells_len, List.length_set, hln], .inr ⟨g, c, _, rfl, hbg, setRow_heap w g cur _ _ _ hgg, hnc, hcm, ?_, ?_⟩⟩ ⟨rfl, rfl, rfl, by simp, fun k _ hk => setRow_other w g k _ (by simpa using hk)⟩ (by simp))
    · simp only [List.size_toArray, List.length_append, List.length_take, List.length_drop, Array.length_toList, alC_len]
      omega
    · rw [alcells_set L (by omega) Y, ← htake]
      have hcl : cur.toList.length = c * 6 := by rw [Array.length_toList, hcs]
      apply List.ext_getElem?
      intro k
      simp only [List.getElem?_take, List.getElem?_append, List.length_append, List.length_take, List.getElem?_drop, List.length_drop, alC_len, hcl]
      rw [show min (i * 6) (c * 6) = i * 6 by omega, show min (i * 6) (min (n * 6) (c * 6)) = i * 6 by omega]
      by_cases k1 : k < i * 6
      · have : k < n * 6 := by omega
        simp [k1, this, show k < i * 6 + 6 by omega]
      · by_cases k2 : k < i * 6 + 6
        · have : k < n * 6 := by omega
          simp [k1, k2, this, show k - i * 6 < 6 by omega]
        · simp [k1, k2, show ¬ k - i * 6 < 6 by omega, show i * 6 + 6 + (k - i * 6 - 6) = k by omega, show i * 6 + 6 + (k - (i * 6 + 6)) = k by omega]
end Go.Proofs.Ytbpaoiajfjkmfaa
namespace Go.Proofs.Ytbpaoiajfjkmfaa
open Go.RowKit
set_option linter.unusedVariables false
set_option linter.unusedSimpArgs false
def swapL (L : List AlD) (a b : Nat) : List AlD := (L.set a (L.getD b al0)).set b (L.getD a al0)
theorem set_get {α : Type} (L : List α) (d : α) {a : Nat} (h : a < L.length) : L.set a (L.getD a d) = L := by
  apply List.ext_getElem
  · simp
  · intro i h1 h2
    rw [List.getElem_set]
    by_cases e : a = i
    · subst e; simp [List.getD, h2]
    · rw [if_neg e]
theorem perm_set {α : Type} (x y : α) : ∀ (L : List α) (a : Nat), a < L.length → (y :: L.set a x).Perm (x :: L.set a y)
  | [], a, h => by simp at h
  | z :: L, 0, h => List.Perm.swap _ _ _
  | z :: L, a + 1, h => by
    rw [List.set_cons_succ, List.set_cons_succ]
    exact (List.Perm.swap _ _ _).trans (((perm_set x y L a (by simpa using h)).cons z).trans (List.Perm.swap _ _ _))
theorem swap_perm {α : Type} (d : α) : ∀ (L : List α) (a b : Nat), a < L.length → b < L.length → ((L.set a (L.getD b d)).set b (L.getD a d)).Perm L
  | [], a, b, h, _ => by simp at h
  | z :: L, 0, 0, _, _ => by simp
  | z :: L, 0, b + 1, _, h => by
    simp only [List.getD_cons_zero, List.getD_cons_succ, List.set_cons_zero, List.set_cons_succ]
    have e := perm_set z (L.getD b d) L b (by simpa using h)
    rw [set_get L d (by simpa using h)] at e
    exact e
  | z :: L, a + 1, 0, h, _ => by
    simp only [List.getD_cons_zero, List.getD_cons_succ, List.set_cons_zero, List.set_cons_succ]
    have e := perm_set z (L.getD a d) L a (by simpa using h)
    rw [set_get L d (by simpa using h)] at e
    exact e
  | z :: L, a + 1, b + 1, h, h2 => by
    simp only [List.getD_cons_succ, List.set_cons_succ]
    exact (swap_perm d L a b (by simpa using h) (by simpa using h2)).cons z
theorem ftl_iff (s t : ByteArray) : s.toList = t.toList ↔ s = t := by
  constructor
  · intro h
    rw [ByteArray.toList_eq, ByteArray.toList_eq] at h
    exact ByteArray.ext (Array.ext' h)
  · intro h; rw [h]
theorem fag_all (a b : AlD) : a = b ↔ a.kind = b.kind ∧ a.sev = b.sev ∧ a.fn = b.fn ∧ a.file = b.file ∧ a.line = b.line ∧ a.expr = b.expr := by
  cases a; cases b; simp
theorem fag_cmp (a b : AlD) {α : Type} (f : Bool → α) (q : Bool) (h : q = true ↔ a = b) : (if a.kind = b.kind then (if a.sev = b.sev then (if a.fn.toList = b.fn.toList then (if a.file.toList = b.file.toList then (if a.line = b.line then (if a.expr.toList = b.expr.toList then f true else f false) else f false) else f false) else f false) else f false) else f false) = f q := by
  rw [fag_all] at h
  simp only [ftl_iff]
  cases q
  · have h' : ¬ (a.kind = b.kind ∧ a.sev = b.sev ∧ a.fn = b.fn ∧ a.file = b.file ∧ a.line = b.line ∧ a.expr = b.expr) := fun x => by have := h.2 x; cases this
    repeat' split
    all_goals first | rfl | (exfalso; apply h'; exact ⟨by assumption, by assumption, by assumption, by assumption, by assumption, by assumption⟩)
  · obtain ⟨h1, h2, h3, h4, h5, h6⟩ := h.1 rfl
    rw [if_pos h1, if_pos h2, if_pos h3, if_pos h4, if_pos h5, if_pos h6]
theorem fag_cmp' (a b : AlD) {α : Type} (f : Bool → α) (q : Bool) (h : q = true ↔ ¬ a = b) : (if a.kind = b.kind then (if a.sev = b.sev then (if a.fn.toList = b.fn.toList then (if a.file.toList = b.file.toList then (if a.line = b.line then (if a.expr.toList = b.expr.toList then f false else f true) else f true) else f true) else f true) else f true) else f true) = f q := by
  have q2 := fag_cmp a b (fun x => f (!x)) (!q) (by cases q <;> simp at h ⊢ <;> exact h)
  simpa using q2
theorem own_open6 {w : World} {base : Nat} {e : TypeId} {a : Option Addr} {n c : Nat} {xs : List Value} (h : w.ownsRow base e 6 (.slice a n c) n xs) (hn : 0 < n) : ∃ g, a = some ⟨g, 0, none⟩ ∧ base ≤ g ∧ g < w.heap.size := by
  rcases h.2 with ⟨_, h0⟩ | ⟨g, cap, cur, hv, hg, hh, _⟩
  · omega
  · injection hv with h1 _ _
    exact ⟨g, h1, hg, (Array.getElem?_eq_some_iff.1 hh).1⟩
set_option maxRecDepth 100000 in
set_option maxHeartbeats 16000000 in
theorem fingerTurns_walk (w : World) (sl : Option Addr) (n c : Nat) (row : AlSl w sl n c) (st : Option Addr) (nt ct : Nat) (lt : List Int) (hlt : lt.length = nt) (hmt : nt ≤ maxLen) (hct : nt ≤ ct) (hwt : ∀ n ∈ lt, (Lit.int .i64 n).wf = true) (hst : Sees .i64 w.heap.size w st lt) :
    Calls Try.prog 5 #[.slice sl n c, .slice st nt ct] w (Gives (.bool true) w) := by
  obtain ⟨l, hRO, hW, hnb⟩ := row
  have qL := Lib.hid (alarge_any l sl n c w hRO hW)
  have qlv := Lib.hid (fun W => flives_any W)
  have hn2 : (n : Int) ≤ 9223372036854775807 := by omega
  have hnt2 : (nt : Int) ≤ 9223372036854775807 := by unfold maxLen at hmt; omega
  clear hwt hct hmt
  cases hbig : bigA l with
  | true =>
    rw [hbig] at qL
    clear hbig hRO hW hst hlt
    go_enter Try.func5, Try.ntmps5
    go_wp2_with fail
    with_reducible refine qL.out.mono ?_
    rintro e w1 ⟨rfl, rfl⟩
    go_wp2_with fail
    with_reducible refine (qlv.out _).mono ?_
    rintro e w2 ⟨rfl, b2⟩
    have b2' := Lib.hid b2
    clear b2
    go_wp2
    go_ret
    exact ⟨rfl, b2'.out⟩
  | false =>
  have hsm := small_of hbig
  rw [hbig] at qL
  clear hbig
  by_cases ht0 : 100 < nt
  · have ht1 : (100 : Int) < (nt : Int) := by omega
    clear hRO hW hst hlt hsm
    go_enter Try.func5, Try.ntmps5
    go_wp2_with fail
    with_reducible refine qL.out.mono ?_
    rintro e w1 ⟨rfl, rfl⟩
    go_wp2_with fail
    with_reducible refine (qlv.out _).mono ?_
    rintro e w2 ⟨rfl, b2⟩
    have b2' := Lib.hid b2
    clear b2
    go_wp2
    go_ret
    exact ⟨rfl, b2'.out⟩
  have ht1 : ¬ (100 : Int) < (nt : Int) := by omega
  have hlen := hRO.len
  have hn100 : n ≤ 100 := by have := hsm.1; omega
  have hS : ∀ a ∈ l, smallA a := fun a ha => by have := hsm.2 a ha; exact ⟨this.1, by have := this.2.1; omega, this.2.2⟩
  have hR' := Lib.hid hRO
  have hT' := Lib.hid hst
  have hlt' := Lib.hid hlt
  have q2 := Lib.hid (fun (L : List AlD) (hp : L.Perm l) (W : World) (a : Option Addr) (c2 : Nat) (h : RO alC W a n c2 L) => (show Calls Try.prog 15 #[.slice a n c2] W (Made 29 .u64 W (fingA L)) from by
    have q := fofs_any L a n c2 W h (fun s hs => hW s (hp.mem_iff.1 hs)) (fun s hs => hS s (hp.mem_iff.1 hs)) hn100
    rwa [fing_is L h.len] at q))
  have q3 := Lib.hid (fun (l : List Int) (a : Option Addr) (c2 : Nat) (W : World) (h : SU .u64 W a n c2 l) => rsorted_any a n c2 l (by omega) W h)
  have hfl : Hid (∀ L : List AlD, L.Perm l → (fingA L).length = n) := Lib.hid (fun L hp => by rw [fing_len, hp.length_eq, hlen])
  have q4 := Lib.hid (fun (L : List AlD) (hp : L.Perm l) (a1 a2 : Option Addr) (c1 c2 : Nat) (W : World) (h1 : SU .u64 W a1 n c1 (sortC cmpZ (fingA l))) (h2 : SU .u64 W a2 n c2 (sortC cmpZ (fingA L))) => (show Calls Try.prog 14 #[.slice a1 n c1, .slice a2 n c2] W (DrawnT (.bool true) W) from by
    have q := rfsame_any a1 a2 _ _ n n c1 c2 W h1 h2
    have e : sortC cmpZ (fingA l) = sortC cmpZ (fingA L) := sortC_is (cmZ (fun x : Int => x)) ((sortC_perm cmpZ _).trans (fingers_perm cmA keyA oneK al0 hp.symm)) (sortC_sorted (cmZ (fun x : Int => x)) _)
    rwa [decide_eq_true e] at q))
  have hon := Lib.hid (fun (L : List AlD) (hp : L.Perm l) (i k : Nat) (hi : i < n) (hk : k < n) (h1 : l.getD i al0 = L.getD k al0) (h2 : ∀ t, t < n → t = i ∨ ¬ l.getD t al0 = l.getD i al0) => (show (fingA l).getD i 0 = (fingA L).getD k 0 from by
    letI : DecidableEq AlD := Classical.typeDecidableEq AlD
    have hkL : k < L.length := by rw [hp.length_eq]; omega
    rw [fing_at l (by omega), fing_at L hkL, h1]
    congr 1
    exact once_perm cmA keyA hp.symm (by omega) hkL h1 (fun j hj e => (h2 j (by omega)).elim id (fun h => absurd e h))))
  have hpl : Hid (∀ L : List AlD, L.Perm l → L.length = n) := Lib.hid (fun L hp => by rw [hp.length_eq, hlen])
  have hcl : Hid ((alcells l).length = n * 6) := Lib.hid (by rw [alcells_len, hlen])
  have hse0 : Hid (SeesC (w.alloc (.cells #[] 24)).heap.size (w.alloc (.cells #[] 24)) sl (alcells l)) := Lib.hid ((hRO.sees.below (box_below w _ _)).mono (box_below w _ _).size)
  have hone : Hid (∀ u ∈ alcells l, u.oneCell' = true) := Lib.hid (fun u hu => alcells_one hu)
  obtain ⟨i0, z0, hi0, hz, h6, h72, hz6⟩ := infoAlZ
  have hPl : Hid (l.Perm l) := Lib.hid (List.Perm.refl l)
  have qF := Lib.hid (fun (W : World) (h : RO alC W sl n c l) => q2.out l hPl.out W sl c h)
  clear hRO hW hsm hS hlen hnb hst hlt
  go_enter Try.func5, Try.ntmps5
  go_wp2_with fail
  with_reducible refine qL.out.mono ?_
  rintro e w1 ⟨rfl, rfl⟩
  clear qL
  go_wp2_with (at_builtin; go_loud (refine wpList_append_cellsB _ rfl (.tmp 24) (.tmp 25) 22 rfl w 24 i0 z0 6 72 Try.underlying22 hi0 hz h6 h72 hz6 (by omega) _ 0 [] (own_cells w 24 6 0 #[] rfl (by decide)) (box_below w _ _) _ sl n c (alcells l) hcl.out hse0.out hone.out rfl rfl (by unfold maxLen; omega) (by omega) ?_); intro v5 w5 o5 b5; simp only [Nat.zero_add, List.nil_append] at o5; have O5 := Lib.hid o5; have B5 := Lib.hid b5; clear o5 b5)
  obtain ⟨a5, c5, rfl, -, -, -⟩ := seesC_own O5.out
  clear hse0 hone hcl hi0 hz h6 h72 hz6
  go_wp2
  go_loopw [6] (fun x wr => ∃ (i : Nat) (L : List AlD), i ≤ nt + 1 ∧ x = .int .i64 i ∧ Hid (L.Perm l) ∧ Hid (wr.ownsRow w.heap.size 24 6 (.slice a5 n c5) n (alcells L)) ∧ Hid (Below w.heap.size w wr)) (fun x _ => nt + 1 - (intOf x).toNat)
  case atStart => exact ⟨0, l, Nat.zero_le _, rfl, hPl, O5, B5⟩
  case round =>
    obtain ⟨i, L, hin, rfl, hP, hO, hB⟩ := hrel
    clear O5 B5
    generalize wr = g0 at *
    have hi100 : (i : Int) ≤ 200 := by omega
    by_cases hik : i + 1 < nt
    · have hki : (i : Int) + 1 < (nt : Int) := by omega
      obtain ⟨bt, ot, rfl, hbt, t0⟩ := sees_num hT'.out (i := i) (by have := hlt'.out; omega)
      obtain ⟨bt', ot', hbb, -, t1⟩ := sees_num hT'.out (i := i + 1) (by have := hlt'.out; omega)
      injection hbb with hbb
      injection hbb with hb1 hb2
      subst hb1 hb2
      have x0 := (hB.out.cell (p := ⟨bt, ot + i, none⟩) hbt).trans t0
      have x1 := (hB.out.cell (p := ⟨bt, ot + (i + 1), none⟩) hbt).trans t1
      have hiw : (i : Int) < (nt : Int) := by omega
      clear t0 t1
      generalize lt.getD i 0 = A at *
      generalize lt.getD (i + 1) 0 = B at *
      go_wp2
      go_quiet (fail)
      have hOq : Hid ((g0.drewN nq).ownsRow w.heap.size 24 6 (.slice a5 n c5) n (alcells L)) := hO
      have hBq := Lib.hid (Below.drewN hB.out nq)
      clear hO hB x0 x1 hiw
      generalize g0.drewN nq = G at *
      by_cases ha0 : 0 ≤ A
      case neg =>
        have e1 : decide (0 ≤ A) = false := decide_eq_false ha0
        go_wp2
        go_roundw
        case rel => exact ⟨i + 2, L, by omega, by go_num, hP, hOq, hBq⟩
        case measure => simp [intOf]; omega
      have e1 : decide (0 ≤ A) = true := decide_eq_true ha0
      by_cases ha1 : A < (n : Int)
      case neg =>
        have e2 : decide (A < (n : Int)) = false := decide_eq_false ha1
        go_wp2
        go_roundw
        case rel => exact ⟨i + 2, L, by omega, by go_num, hP, hOq, hBq⟩
        case measure => simp [intOf]; omega
      have e2 : decide (A < (n : Int)) = true := decide_eq_true ha1
      by_cases hb0 : 0 ≤ B
      case neg =>
        have e3 : decide (0 ≤ B) = false := decide_eq_false hb0
        go_wp2
        go_roundw
        case rel => exact ⟨i + 2, L, by omega, by go_num, hP, hOq, hBq⟩
        case measure => simp [intOf]; omega
      have e3 : decide (0 ≤ B) = true := decide_eq_true hb0
      by_cases hb1 : B < (n : Int)
      case neg =>
        have e4 : decide (B < (n : Int)) = false := decide_eq_false hb1
        go_wp2
        go_roundw
        case rel => exact ⟨i + 2, L, by omega, by go_num, hP, hOq, hBq⟩
        case measure => simp [intOf]; omega
      have e4 : decide (B < (n : Int)) = true := decide_eq_true hb1
      clear e1 e2 e3 e4
      obtain ⟨p, rfl⟩ := Int.eq_ofNat_of_zero_le ha0
      obtain ⟨q, rfl⟩ := Int.eq_ofNat_of_zero_le hb0
      have hp : p < n := by omega
      have hq : q < n := by omega
      obtain ⟨g, rfl, hg1, hg2⟩ := own_open6 hOq.out (by omega)
      obtain ⟨y0, y1, y2, y3, y4, y5⟩ := own_al_at hOq.out hp
      obtain ⟨z0, z1, z2, z3, z4, z5⟩ := own_al_at hOq.out hq
      have hPn : Hid ((swapL L p q).Perm l) := Lib.hid ((swap_perm al0 L p q (by rw [hpl.out L hP.out]; exact hp) (by rw [hpl.out L hP.out]; exact hq)).trans hP.out)
      have hsw : Hid ((L.set p (L.getD q al0)).set q (L.getD p al0) = swapL L p q) := Lib.hid rfl
      generalize L.getD p al0 = X at *
      generalize L.getD q al0 = Y at *
      obtain ⟨ak, av, af, ai, al, ax⟩ := X
      obtain ⟨bk, bv, bf, bi, bl, bx⟩ := Y
      dsimp only at y0 y1 y2 y3 y4 y5 z0 z1 z2 z3 z4 z5
      have hB1 := Lib.hid (box_below G #[.int .i64 ak, .int .i64 av, .string af, .string ai, .int .i64 al, .string ax] 24)
      have Z := Lib.hid (Holds.new G 24 #[.int .i64 ak, .int .i64 av, .string af, .string ai, .int .i64 al, .string ax])
      have hO1 := Lib.hid (own_below hOq.out hB1.out)
      clear hOq
      go_wp2_with (first | (refine wpList_store_al rfl (.tmp 75) (.tmp 74) rfl _ g n c5 _ O2.out q hq ⟨ak, av, af, ai, al, ax⟩ rfl rfl ?_; intro w3 o3 e3 s3; clear x0 x1 x2 x3 x4 x5) | (refine wpList_store_al rfl (.tmp 71) (.tmp 70) rfl _ g n c5 L hO1.out p hp ⟨bk, bv, bf, bi, bl, bx⟩ rfl rfl ?_; intro w2 o2 e2 s2; have O2 := Lib.hid o2; have E2 := Lib.hid e2; have Z2 := Lib.hid (Z.out.belowE e2 Z.out.lt (by simp; omega)); clear o2 e2 s2 y0 y1 y2 y3 y4 y5 z0 z1 z2 z3 z4 z5 Z hO1; have x0 := Z2.out.cell 0; have x1 := Z2.out.cell 1; have x2 := Z2.out.cell 2; have x3 := Z2.out.cell 3; have x4 := Z2.out.cell 4; have x5 := Z2.out.cell 5; simp at x0 x1 x2 x3 x4 x5))
      rw [hsw.out] at o3
      have O3 := Lib.hid o3
      have B3 : Hid (Below w.heap.size w w3) := Lib.hid (hBq.out.trans (((((BelowE.of hB1.out (X := [g])).trans (E2.out.mono hB1.out.size)).trans (e3.mono (Nat.le_trans hB1.out.size E2.out.size))).mono hBq.out.size).toBelow (by intro x hx; simp at hx; omega)))
      clear o3 e3 s3 O2 E2 Z2 hB1 hBq hsw
      go_wp2
      go_roundw
      case rel => exact ⟨i + 2, swapL L p q, by omega, by go_num, hPn, O3, B3⟩
      case measure => simp [intOf]; omega
    · have hki : ¬ (i : Int) + 1 < (nt : Int) := by omega
      obtain ⟨a5', c5', he5, hRL0⟩ := ro_own hO.out
      injection he5 with he1 _ he2
      subst he1 he2
      have hRL := Lib.hid hRL0
      have hRl := Lib.hid (hR'.out.below hB.out)
      have hfl1 := hfl.out l hPl.out
      have hfl2 := hfl.out L hP.out
      have q4' := Lib.hid (q4.out L hP.out)
      have q2' := Lib.hid (q2.out L hP.out)
      have hon' := Lib.hid (hon.out L hP.out)
      have hll : Hid (l.length = n) := Lib.hid (hpl.out l hPl.out)
      have hLL : Hid (L.length = n) := Lib.hid (hpl.out L hP.out)
      have hfl1' := Lib.hid hfl1
      have hfl2' := Lib.hid hfl2
      have hsl1 : Hid ((sortC cmpZ (fingA l)).length = n) := Lib.hid (by rw [sortC_len, hfl1])
      have hsl2 : Hid ((sortC cmpZ (fingA L)).length = n) := Lib.hid (by rw [sortC_len, hfl2])
      clear hRL0 hO hT' hlt' q4 hon hpl hfl q2 hfl1 hfl2
      generalize fingA l = FL at *
      generalize fingA L = GL at *
      go_wp2_with fail
      with_reducible refine (qF.out g0 hRl.out).mono ?_
      rintro e g1 h1
      obtain ⟨a6, c6, rfl, s6, b6⟩ := h1.open n hfl1'.out
      have S6 := Lib.hid s6
      have B6 := Lib.hid b6
      clear h1 s6 b6 qF
      go_wp2_with fail
      with_reducible refine (q2'.out g1 a5 c5 (hRL.out.below B6.out)).mono ?_
      rintro e g2 h2
      obtain ⟨a7, c7, rfl, s7, b7⟩ := h2.open n hfl2'.out
      have S7 := Lib.hid s7
      have B7 := Lib.hid b7
      clear h2 s7 b7 q2'
      go_wp2_with fail
      with_reducible refine (qlv.out _).mono ?_
      rintro e g3 ⟨rfl, b3⟩
      have B3 := Lib.hid b3
      clear b3
      have S6b : Hid (Sees .u64 g3.heap.size g3 a6 FL) := Lib.hid ((((S6.out.below B7.out).mono B7.out.size).below B3.out).mono B3.out.size)
      have S7b : Hid (Sees .u64 g3.heap.size g3 a7 GL) := Lib.hid ((S7.out.below B3.out).mono B3.out.size)
      have B63 : Hid (Below g0.heap.size g0 g3) := Lib.hid ((B6.out.trans (B7.out.mono B6.out.size)).trans (B3.out.mono (Nat.le_trans B6.out.size B7.out.size)))
      clear S6 S7 B6 B7 B3
      go_wp2_with fail
      with_reducible refine (q3.out FL a6 c6 g3 ⟨hfl1'.out.symm, by omega, S6b.out⟩).mono ?_
      rintro e g4 h4
      obtain ⟨a8, c8, rfl, s8, b8⟩ := h4.open n hsl1.out
      have S8 := Lib.hid s8
      have B8 := Lib.hid b8
      clear h4 s8 b8
      go_wp2_with fail
      with_reducible refine (q3.out GL a7 c7 g4 ⟨hfl2'.out.symm, by omega, (S7b.out.below B8.out).mono B8.out.size⟩).mono ?_
      rintro e g5 h5
      obtain ⟨a9, c9, rfl, s9, b9⟩ := h5.open n hsl2.out
      have S9 := Lib.hid s9
      have B9 := Lib.hid b9
      clear h5 s9 b9 q3
      go_wp2_with fail
      with_reducible refine (q4'.out a8 a9 c8 c9 g5 ⟨hsl1.out.symm, by omega, (S8.out.below B9.out).mono B9.out.size⟩ ⟨hsl2.out.symm, by omega, S9.out⟩).mono ?_
      rintro e g6 ⟨rfl, qq, rfl⟩
      have B89 : Hid (Below g3.heap.size g3 g5) := Lib.hid (B8.out.trans (B9.out.mono B8.out.size))
      have BG : Hid (Below g0.heap.size g0 (g5.drewN qq)) := Lib.hid (Below.drewN (B63.out.trans (B89.out.mono B63.out.size)) qq)
      have SF : Hid (Sees .u64 (g5.drewN qq).heap.size (g5.drewN qq) a6 FL) := Lib.hid ((S6b.out.below B89.out).mono B89.out.size)
      have SG : Hid (Sees .u64 (g5.drewN qq).heap.size (g5.drewN qq) a7 GL) := Lib.hid ((S7b.out.below B89.out).mono B89.out.size)
      have RL : Hid (RO alC (g5.drewN qq) sl n c l) := Lib.hid (hRl.out.below BG.out)
      have RM : Hid (RO alC (g5.drewN qq) a5 n c5 L) := Lib.hid (hRL.out.below BG.out)
      have hfin : Hid (Below w.heap.size w (g5.drewN qq)) := Lib.hid (hB.out.trans (BG.out.mono hB.out.size))
      clear S8 S9 B8 B9 B89 BG S6b S7b B63 hRl hRL hB hsl1 hsl2 q4'
      generalize g5.drewN qq = G at *
      go_wp2
      go_loopw [12] (fun x wr => ∃ i q : Nat, i ≤ n ∧ x = .int .i64 i ∧ wr = G.drewN q) (fun x _ => n - (intOf x).toNat)
      case atStart => exact ⟨0, 0, Nat.zero_le _, rfl, rfl⟩
      case round =>
        obtain ⟨i, q1, hin, rfl, rfl⟩ := hrel
        by_cases hin2 : i < n
        · have hii : (i : Int) < (n : Int) := by omega
          go_wp2
          go_loopw [13] (fun x wr => ∃ k q : Nat, k ≤ n ∧ x = .int .i64 k ∧ wr = G.drewN q) (fun x _ => n - (intOf x).toNat)
          case atStart => exact ⟨0, q1, Nat.zero_le _, rfl, rfl⟩
          case round =>
            obtain ⟨k, q2, hkn, rfl, rfl⟩ := hrel
            by_cases hkn2 : k < n
            · have hkk : (k : Int) < (n : Int) := by omega
              obtain ⟨bl, ol, rfl, hbl, x0, x1, x2, x3, x4, x5⟩ := al_at RL.out hin2
              obtain ⟨bm, om, rfl, hbm, y0, y1, y2, y3, y4, y5⟩ := al_at RM.out hkn2
              have p0 : ∀ W, (∃ j, W = G.drewN j) → W.cell? ⟨bl, ol + i * 6, none⟩ = some (.int .i64 (l.getD i al0).kind) := fun W hW => by obtain ⟨j, rfl⟩ := hW; exact x0
              have p1 : ∀ W, (∃ j, W = G.drewN j) → W.cell? ⟨bl, ol + i * 6 + 1, none⟩ = some (.int .i64 (l.getD i al0).sev) := fun W hW => by obtain ⟨j, rfl⟩ := hW; exact x1
              have p2 : ∀ W, (∃ j, W = G.drewN j) → W.cell? ⟨bl, ol + i * 6 + 2, none⟩ = some (.string (l.getD i al0).fn) := fun W hW => by obtain ⟨j, rfl⟩ := hW; exact x2
              have p3 : ∀ W, (∃ j, W = G.drewN j) → W.cell? ⟨bl, ol + i * 6 + 3, none⟩ = some (.string (l.getD i al0).file) := fun W hW => by obtain ⟨j, rfl⟩ := hW; exact x3
              have p4 : ∀ W, (∃ j, W = G.drewN j) → W.cell? ⟨bl, ol + i * 6 + 4, none⟩ = some (.int .i64 (l.getD i al0).line) := fun W hW => by obtain ⟨j, rfl⟩ := hW; exact x4
              have p5 : ∀ W, (∃ j, W = G.drewN j) → W.cell? ⟨bl, ol + i * 6 + 5, none⟩ = some (.string (l.getD i al0).expr) := fun W hW => by obtain ⟨j, rfl⟩ := hW; exact x5
              have r0 : ∀ W, (∃ j, W = G.drewN j) → W.cell? ⟨bm, om + k * 6, none⟩ = some (.int .i64 (L.getD k al0).kind) := fun W hW => by obtain ⟨j, rfl⟩ := hW; exact y0
              have r1 : ∀ W, (∃ j, W = G.drewN j) → W.cell? ⟨bm, om + k * 6 + 1, none⟩ = some (.int .i64 (L.getD k al0).sev) := fun W hW => by obtain ⟨j, rfl⟩ := hW; exact y1
              have r2 : ∀ W, (∃ j, W = G.drewN j) → W.cell? ⟨bm, om + k * 6 + 2, none⟩ = some (.string (L.getD k al0).fn) := fun W hW => by obtain ⟨j, rfl⟩ := hW; exact y2
              have r3 : ∀ W, (∃ j, W = G.drewN j) → W.cell? ⟨bm, om + k * 6 + 3, none⟩ = some (.string (L.getD k al0).file) := fun W hW => by obtain ⟨j, rfl⟩ := hW; exact y3
              have r4 : ∀ W, (∃ j, W = G.drewN j) → W.cell? ⟨bm, om + k * 6 + 4, none⟩ = some (.int .i64 (L.getD k al0).line) := fun W hW => by obtain ⟨j, rfl⟩ := hW; exact y4
              have r5 : ∀ W, (∃ j, W = G.drewN j) → W.cell? ⟨bm, om + k * 6 + 5, none⟩ = some (.string (L.getD k al0).expr) := fun W hW => by obtain ⟨j, rfl⟩ := hW; exact y5
              clear x0 x1 x2 x3 x4 x5 y0 y1 y2 y3 y4 y5
              have hkf : Hid (l.getD i al0 = L.getD k al0 → (∀ t, t < n → t = i ∨ ¬ l.getD t al0 = l.getD i al0) → FL.getD i 0 = GL.getD k 0) := Lib.hid (fun h1 h2 => hon'.out i k hin2 hkn2 h1 h2)
              obtain ⟨bq, hbq⟩ : ∃ bq : Bool, bq = true ↔ l.getD i al0 = L.getD k al0 := by
                by_cases h : l.getD i al0 = L.getD k al0
                · exact ⟨true, fun _ => h, fun _ => rfl⟩
                · exact ⟨false, fun q => (by cases q), fun q => absurd q h⟩
              have hag := Lib.hid hbq
              have hbq' := Lib.hid hbq
              clear hbq
              generalize hY : L.getD k al0 = Y at *
              have hY' := Lib.hid hY
              clear hY
              have hXc := Lib.hid (fun t (ht : t < n) => al_at RL.out ht)
              have hm1 : Hid (∀ t, t < n → ∃ c : Bool, c = true ↔ ¬ l.getD t al0 = l.getD i al0) := Lib.hid (fun t _ => by
                by_cases h : l.getD t al0 = l.getD i al0
                · exact ⟨false, fun q => (by cases q), fun q => absurd h q⟩
                · exact ⟨true, fun _ => h, fun _ => rfl⟩)
              obtain ⟨P1, hP1⟩ : ∃ P1 : Nat → Prop, ∀ t, P1 t ↔ (t = i ∨ ¬ l.getD t al0 = l.getD i al0) := ⟨_, fun t => Iff.rfl⟩
              have hP1' := Lib.hid hP1
              have hat := Lib.hid (fun t (c : Bool) (h : c = true ↔ ¬ l.getD t al0 = l.getD i al0) => h)
              clear hP1
              generalize hX : l.getD i al0 = X at *
              have hX' := Lib.hid hX
              clear hX
              obtain ⟨ak, av, af, ai, al, ax⟩ := X
              obtain ⟨bk, bv, bf, bi, bll, bx⟩ := Y
              dsimp only at p0 p1 p2 p3 p4 p5 r0 r1 r2 r3 r4 r5
              go_wp2
              refine wp_drawn_on (fun W => ∃ j, W = G.drewN j) (by kernel_rfl) (⟨q2 + 1, rfl⟩) (fun hHeld => ?_)
              refine wpAnyH_take (i := 0) (oi := { dst := some 116, op := Go.Op.move (Go.Operand.tmp 0), type := 22, pos := "law.go:77", after := #[], guard := none }) (v := ?v1) rfl (by kernel_rfl) (by kernel_rfl) (by kernel_rfl) (fun _ _ _ h => h) (Or.inl ⟨by kernel_rfl, ?h1⟩) (by assumption) ?r1
              case h1 => (intro w hSw; (try dsimp only at hSw); go_simp; try with_reducible rfl)
              try simp only [Act.put, List.setIfInBounds_toArray, List.set_cons_zero, List.set_cons_succ]
              refine wpAnyH_take (i := 1) (oi := { dst := some 117, op := Go.Op.move (Go.Operand.tmp 12), type := 3, pos := "law.go:77", after := #[], guard := none }) (v := ?v2) rfl (by kernel_rfl) (by kernel_rfl) (by kernel_rfl) (fun _ _ _ h => h) (Or.inl ⟨by kernel_rfl, ?h2⟩) (by assumption) ?r2
              case h2 => (intro w hSw; (try dsimp only at hSw); go_simp; try with_reducible rfl)
              try simp only [Act.put, List.setIfInBounds_toArray, List.set_cons_zero, List.set_cons_succ]
              refine wpAnyH_take (i := 2) (oi := { dst := some 118, op := Go.Op.indexAddr 22 (Go.Operand.tmp 116) (Go.Operand.tmp 117), type := 0, pos := "law.go:77", after := #[{ on := 0, ground := Go.Ground.data }, { on := 1, ground := Go.Ground.data }], guard := none }) (v := ?v3) rfl (by kernel_rfl) (by kernel_rfl) (by kernel_rfl) (fun _ _ _ h => h) (Or.inl ⟨by kernel_rfl, ?h3⟩) (by assumption) ?r3
              case h3 => (intro w hSw; (try dsimp only at hSw); go_simp; try with_reducible rfl)
              try simp only [Act.put, List.setIfInBounds_toArray, List.set_cons_zero, List.set_cons_succ]
              refine wpAnyH_take (i := 3) (oi := { dst := some 119, op := Go.Op.load 24 (Go.Operand.tmp 118), type := 24, pos := "law.go:77", after := #[{ on := 2, ground := Go.Ground.data }], guard := none }) (v := ?v4) rfl (by kernel_rfl) (by kernel_rfl) (by kernel_rfl) (fun _ _ _ h => h) (Or.inl ⟨by kernel_rfl, ?h4⟩) (by assumption) ?r4
              case h4 => (intro w hSw; (try dsimp only at hSw); go_simp; try with_reducible rfl)
              try simp only [Act.put, List.setIfInBounds_toArray, List.set_cons_zero, List.set_cons_succ]
              refine wpAnyH_take (i := 4) (oi := { dst := some 120, op := Go.Op.move (Go.Operand.tmp 5), type := 22, pos := "law.go:77", after := #[], guard := none }) (v := ?v5) rfl (by kernel_rfl) (by kernel_rfl) (by kernel_rfl) (fun _ _ _ h => h) (Or.inl ⟨by kernel_rfl, ?h5⟩) (by assumption) ?r5
              case h5 => (intro w hSw; (try dsimp only at hSw); go_simp; try with_reducible rfl)
              try simp only [Act.put, List.setIfInBounds_toArray, List.set_cons_zero, List.set_cons_succ]
              refine wpAnyH_take (i := 5) (oi := { dst := some 121, op := Go.Op.move (Go.Operand.tmp 13), type := 3, pos := "law.go:77", after := #[], guard := none }) (v := ?v6) rfl (by kernel_rfl) (by kernel_rfl) (by kernel_rfl) (fun _ _ _ h => h) (Or.inl ⟨by kernel_rfl, ?h6⟩) (by assumption) ?r6
              case h6 => (intro w hSw; (try dsimp only at hSw); go_simp; try with_reducible rfl)
              try simp only [Act.put, List.setIfInBounds_toArray, List.set_cons_zero, List.set_cons_succ]
              refine wpAnyH_take (i := 6) (oi := { dst := some 122, op := Go.Op.indexAddr 22 (Go.Operand.tmp 120) (Go.Operand.tmp 121), type := 0, pos := "law.go:77", after := #[{ on := 4, ground := Go.Ground.data }, { on := 5, ground := Go.Ground.data }], guard := none }) (v := ?v7) rfl (by kernel_rfl) (by kernel_rfl) (by kernel_rfl) (fun _ _ _ h => h) (Or.inl ⟨by kernel_rfl, ?h7⟩) (by assumption) ?r7
              case h7 => (intro w hSw; (try dsimp only at hSw); go_simp; try with_reducible rfl)
              try simp only [Act.put, List.setIfInBounds_toArray, List.set_cons_zero, List.set_cons_succ]
              refine wpAnyH_take (i := 7) (oi := { dst := some 123, op := Go.Op.load 24 (Go.Operand.tmp 122), type := 24, pos := "law.go:77", after := #[{ on := 6, ground := Go.Ground.data }], guard := none }) (v := ?v8) rfl (by kernel_rfl) (by kernel_rfl) (by kernel_rfl) (fun _ _ _ h => h) (Or.inl ⟨by kernel_rfl, ?h8⟩) (by assumption) ?r8
              case h8 => (intro w hSw; (try dsimp only at hSw); go_simp; try with_reducible rfl)
              try simp only [Act.put, List.setIfInBounds_toArray, List.set_cons_zero, List.set_cons_succ]
              refine wpAnyH_take (i := 8) (oi := { dst := some 124, op := Go.Op.binOp Go.BinOp.eql 24 (Go.Operand.tmp 119) (Go.Operand.tmp 123) 24, type := 4, pos := "law.go:77", after := #[{ on := 3, ground := Go.Ground.data }, { on := 7, ground := Go.Ground.data }], guard := none }) (v := ?v9) rfl (by kernel_rfl) (by kernel_rfl) (by kernel_rfl) (fun _ _ _ h => h) (Or.inl ⟨by kernel_rfl, ?h9⟩) (by assumption) ?r9
              case h9 => (intro w hSw; (try dsimp only at hSw); refine Eq.trans (b := Result.ok (Next.value (.bool bq)) w) (by go_simp; exact fag_cmp ⟨ak, av, af, ai, al, ax⟩ ⟨bk, bv, bf, bi, bll, bx⟩ (fun b => Result.ok (Next.value (Value.bool b)) w) bq hag.out) ?_; with_reducible rfl)
              try simp only [Act.put, List.setIfInBounds_toArray, List.set_cons_zero, List.set_cons_succ]
              refine wpAnyH_take (i := 9) (oi := { dst := some 14, op := Go.Op.assign (Go.Operand.tmp 124), type := 4, pos := "law.go:77", after := #[{ on := 8, ground := Go.Ground.data }, { on := 0, ground := Go.Ground.phase }, { on := 1, ground := Go.Ground.phase }, { on := 2, ground := Go.Ground.phase }, { on := 3, ground := Go.Ground.phase }, { on := 4, ground := Go.Ground.phase }, { on := 5, ground := Go.Ground.phase }, { on := 6, ground := Go.Ground.phase }, { on := 7, ground := Go.Ground.phase }, { on := 8, ground := Go.Ground.phase }], guard := none }) (v := ?v10) rfl (by kernel_rfl) (by kernel_rfl) (by kernel_rfl) (fun _ _ _ h => h) (Or.inl ⟨by kernel_rfl, ?h10⟩) (by assumption) ?r10
              case h10 => (intro w hSw; (try dsimp only at hSw); go_simp; try with_reducible rfl)
              try simp only [Act.put, List.setIfInBounds_toArray, List.set_cons_zero, List.set_cons_succ]
              refine wpAnyH_done (by kernel_rfl) ?_ _
              clear r0 r1 r2 r3 r4 r5 hag
              go_wp2
              go_loopw [14, 15] (fun x y wr => ∃ (j q : Nat) (b : Bool), j ≤ n ∧ x = .bool b ∧ y = .int .i64 j ∧ Hid (b = true ↔ (bq = true ∧ ∀ t, t < j → P1 t)) ∧ wr = G.drewN q) (fun _ y _ => n - (intOf y).toNat)
              case atStart => exact ⟨0, q2 + 1, bq, Nat.zero_le _, rfl, rfl, Lib.hid (by simp), rfl⟩
              case round =>
                obtain ⟨j, q3, b, hjn, rfl, rfl, hb, rfl⟩ := hrel
                by_cases hjn2 : j < n
                · have hjj : (j : Int) < (n : Int) := by omega
                  cases b with
                  | false =>
                    have hb2 : Hid (false = true ↔ (bq = true ∧ ∀ t, t < j + 1 → P1 t)) := Lib.hid ⟨fun h => (by cases h), fun ⟨h1, h2⟩ => hb.out.2 ⟨h1, fun t ht => h2 t (by omega)⟩⟩
                    clear hb
                    go_wp2
                    refine wp_drawn_on (fun W => ∃ j, W = G.drewN j) (by kernel_rfl) (⟨q3 + 1, rfl⟩) (fun hHeld => ?_)
                    refine wpAnyH_take (i := 0) (oi := { dst := some 131, op := Go.Op.move (Go.Operand.tmp 14), type := 4, pos := "law.go:79", after := #[], guard := none }) (v := ?v11) rfl (by kernel_rfl) (by kernel_rfl) (by kernel_rfl) (fun _ _ _ h => h) (Or.inl ⟨by kernel_rfl, ?h11⟩) (by assumption) ?r11
                    case h11 => (intro w hSw; (try dsimp only at hSw); go_simp; try with_reducible rfl)
                    try simp only [Act.put, List.setIfInBounds_toArray, List.set_cons_zero, List.set_cons_succ]
                    refine wpAnyH_take (i := 1) (oi := { dst := some 132, op := Go.Op.move (Go.Operand.tmp 131), type := 4, pos := "law.go:79", after := #[{ on := 0, ground := Go.Ground.data }], guard := none }) (v := ?v12) rfl (by kernel_rfl) (by kernel_rfl) (by kernel_rfl) (fun _ _ _ h => h) (Or.inl ⟨by kernel_rfl, ?h12⟩) (by assumption) ?r12
                    case h12 => (intro w hSw; (try dsimp only at hSw); go_simp; try with_reducible rfl)
                    try simp only [Act.put, List.setIfInBounds_toArray, List.set_cons_zero, List.set_cons_succ]
                    refine wpAnyH_take (i := 2) (oi := { dst := some 133, op := Go.Op.move (Go.Operand.tmp 15), type := 3, pos := "law.go:79", after := #[{ on := 1, ground := Go.Ground.guard }], guard := some (1, true) }) (v := undef) rfl (by kernel_rfl) (by kernel_rfl) (by kernel_rfl) (fun _ _ _ h => h) (Or.inr ⟨by kernel_rfl, rfl⟩) (by assumption) ?_
                    try simp only [Act.put, List.setIfInBounds_toArray, List.set_cons_zero, List.set_cons_succ]
                    refine wpAnyH_take (i := 3) (oi := { dst := some 134, op := Go.Op.move (Go.Operand.tmp 12), type := 3, pos := "law.go:79", after := #[{ on := 1, ground := Go.Ground.guard }], guard := some (1, true) }) (v := undef) rfl (by kernel_rfl) (by kernel_rfl) (by kernel_rfl) (fun _ _ _ h => h) (Or.inr ⟨by kernel_rfl, rfl⟩) (by assumption) ?_
                    try simp only [Act.put, List.setIfInBounds_toArray, List.set_cons_zero, List.set_cons_succ]
                    refine wpAnyH_take (i := 4) (oi := { dst := some 135, op := Go.Op.binOp Go.BinOp.eql 3 (Go.Operand.tmp 133) (Go.Operand.tmp 134) 3, type := 4, pos := "law.go:79", after := #[{ on := 2, ground := Go.Ground.data }, { on := 3, ground := Go.Ground.data }, { on := 1, ground := Go.Ground.guard }], guard := some (1, true) }) (v := undef) rfl (by kernel_rfl) (by kernel_rfl) (by kernel_rfl) (fun _ _ _ h => h) (Or.inr ⟨by kernel_rfl, rfl⟩) (by assumption) ?_
                    try simp only [Act.put, List.setIfInBounds_toArray, List.set_cons_zero, List.set_cons_succ]
                    refine wpAnyH_take (i := 5) (oi := { dst := some 136, op := Go.Op.move (Go.Operand.tmp 135), type := 4, pos := "law.go:79", after := #[{ on := 4, ground := Go.Ground.data }, { on := 1, ground := Go.Ground.chain }, { on := 1, ground := Go.Ground.guard }], guard := some (1, true) }) (v := undef) rfl (by kernel_rfl) (by kernel_rfl) (by kernel_rfl) (fun _ _ _ h => h) (Or.inr ⟨by kernel_rfl, rfl⟩) (by assumption) ?_
                    try simp only [Act.put, List.setIfInBounds_toArray, List.set_cons_zero, List.set_cons_succ]
                    refine wpAnyH_take (i := 6) (oi := { dst := some 137, op := Go.Op.move (Go.Operand.tmp 0), type := 22, pos := "law.go:79", after := #[{ on := 5, ground := Go.Ground.guard }], guard := some (5, false) }) (v := undef) rfl (by kernel_rfl) (by kernel_rfl) (by kernel_rfl) (fun _ _ _ h => h) (Or.inr ⟨by kernel_rfl, rfl⟩) (by assumption) ?_
                    try simp only [Act.put, List.setIfInBounds_toArray, List.set_cons_zero, List.set_cons_succ]
                    refine wpAnyH_take (i := 7) (oi := { dst := some 138, op := Go.Op.move (Go.Operand.tmp 15), type := 3, pos := "law.go:79", after := #[{ on := 5, ground := Go.Ground.guard }], guard := some (5, false) }) (v := undef) rfl (by kernel_rfl) (by kernel_rfl) (by kernel_rfl) (fun _ _ _ h => h) (Or.inr ⟨by kernel_rfl, rfl⟩) (by assumption) ?_
                    try simp only [Act.put, List.setIfInBounds_toArray, List.set_cons_zero, List.set_cons_succ]
                    refine wpAnyH_take (i := 8) (oi := { dst := some 139, op := Go.Op.indexAddr 22 (Go.Operand.tmp 137) (Go.Operand.tmp 138), type := 0, pos := "law.go:79", after := #[{ on := 6, ground := Go.Ground.data }, { on := 7, ground := Go.Ground.data }, { on := 5, ground := Go.Ground.guard }], guard := some (5, false) }) (v := undef) rfl (by kernel_rfl) (by kernel_rfl) (by kernel_rfl) (fun _ _ _ h => h) (Or.inr ⟨by kernel_rfl, rfl⟩) (by assumption) ?_
                    try simp only [Act.put, List.setIfInBounds_toArray, List.set_cons_zero, List.set_cons_succ]
                    refine wpAnyH_take (i := 9) (oi := { dst := some 140, op := Go.Op.load 24 (Go.Operand.tmp 139), type := 24, pos := "law.go:79", after := #[{ on := 8, ground := Go.Ground.data }, { on := 5, ground := Go.Ground.guard }], guard := some (5, false) }) (v := undef) rfl (by kernel_rfl) (by kernel_rfl) (by kernel_rfl) (fun _ _ _ h => h) (Or.inr ⟨by kernel_rfl, rfl⟩) (by assumption) ?_
                    try simp only [Act.put, List.setIfInBounds_toArray, List.set_cons_zero, List.set_cons_succ]
                    refine wpAnyH_take (i := 10) (oi := { dst := some 141, op := Go.Op.move (Go.Operand.tmp 0), type := 22, pos := "law.go:79", after := #[{ on := 5, ground := Go.Ground.guard }], guard := some (5, false) }) (v := undef) rfl (by kernel_rfl) (by kernel_rfl) (by kernel_rfl) (fun _ _ _ h => h) (Or.inr ⟨by kernel_rfl, rfl⟩) (by assumption) ?_
                    try simp only [Act.put, List.setIfInBounds_toArray, List.set_cons_zero, List.set_cons_succ]
                    refine wpAnyH_take (i := 11) (oi := { dst := some 142, op := Go.Op.move (Go.Operand.tmp 12), type := 3, pos := "law.go:79", after := #[{ on := 5, ground := Go.Ground.guard }], guard := some (5, false) }) (v := undef) rfl (by kernel_rfl) (by kernel_rfl) (by kernel_rfl) (fun _ _ _ h => h) (Or.inr ⟨by kernel_rfl, rfl⟩) (by assumption) ?_
                    try simp only [Act.put, List.setIfInBounds_toArray, List.set_cons_zero, List.set_cons_succ]
                    refine wpAnyH_take (i := 12) (oi := { dst := some 143, op := Go.Op.indexAddr 22 (Go.Operand.tmp 141) (Go.Operand.tmp 142), type := 0, pos := "law.go:79", after := #[{ on := 10, ground := Go.Ground.data }, { on := 11, ground := Go.Ground.data }, { on := 5, ground := Go.Ground.guard }], guard := some (5, false) }) (v := undef) rfl (by kernel_rfl) (by kernel_rfl) (by kernel_rfl) (fun _ _ _ h => h) (Or.inr ⟨by kernel_rfl, rfl⟩) (by assumption) ?_
                    try simp only [Act.put, List.setIfInBounds_toArray, List.set_cons_zero, List.set_cons_succ]
                    refine wpAnyH_take (i := 13) (oi := { dst := some 144, op := Go.Op.load 24 (Go.Operand.tmp 143), type := 24, pos := "law.go:79", after := #[{ on := 12, ground := Go.Ground.data }, { on := 5, ground := Go.Ground.guard }], guard := some (5, false) }) (v := undef) rfl (by kernel_rfl) (by kernel_rfl) (by kernel_rfl) (fun _ _ _ h => h) (Or.inr ⟨by kernel_rfl, rfl⟩) (by assumption) ?_
                    try simp only [Act.put, List.setIfInBounds_toArray, List.set_cons_zero, List.set_cons_succ]
                    refine wpAnyH_take (i := 14) (oi := { dst := some 145, op := Go.Op.binOp Go.BinOp.neq 24 (Go.Operand.tmp 140) (Go.Operand.tmp 144) 24, type := 4, pos := "law.go:79", after := #[{ on := 9, ground := Go.Ground.data }, { on := 13, ground := Go.Ground.data }, { on := 5, ground := Go.Ground.guard }], guard := some (5, false) }) (v := undef) rfl (by kernel_rfl) (by kernel_rfl) (by kernel_rfl) (fun _ _ _ h => h) (Or.inr ⟨by kernel_rfl, rfl⟩) (by assumption) ?_
                    try simp only [Act.put, List.setIfInBounds_toArray, List.set_cons_zero, List.set_cons_succ]
                    refine wpAnyH_take (i := 15) (oi := { dst := some 146, op := Go.Op.pick (Go.Operand.tmp 136) (Go.Operand.const (Go.Value.bool true)) (Go.Operand.tmp 145), type := 4, pos := "law.go:79", after := #[{ on := 5, ground := Go.Ground.data }, { on := 14, ground := Go.Ground.data }, { on := 1, ground := Go.Ground.guard }], guard := some (1, true) }) (v := undef) rfl (by kernel_rfl) (by kernel_rfl) (by kernel_rfl) (fun _ _ _ h => h) (Or.inr ⟨by kernel_rfl, rfl⟩) (by assumption) ?_
                    try simp only [Act.put, List.setIfInBounds_toArray, List.set_cons_zero, List.set_cons_succ]
                    refine wpAnyH_take (i := 16) (oi := { dst := some 147, op := Go.Op.pick (Go.Operand.tmp 132) (Go.Operand.tmp 146) (Go.Operand.const (Go.Value.bool false)), type := 4, pos := "law.go:79", after := #[{ on := 1, ground := Go.Ground.data }, { on := 15, ground := Go.Ground.data }], guard := none }) (v := ?v27) rfl (by kernel_rfl) (by kernel_rfl) (by kernel_rfl) (fun _ _ _ h => h) (Or.inl ⟨by kernel_rfl, ?h27⟩) (by assumption) ?r27
                    case h27 => (intro w hSw; (try dsimp only at hSw); go_simp; try with_reducible rfl)
                    try simp only [Act.put, List.setIfInBounds_toArray, List.set_cons_zero, List.set_cons_succ]
                    refine wpAnyH_take (i := 17) (oi := { dst := some 14, op := Go.Op.assign (Go.Operand.tmp 147), type := 4, pos := "law.go:79", after := #[{ on := 16, ground := Go.Ground.data }, { on := 5, ground := Go.Ground.chain }, { on := 0, ground := Go.Ground.phase }, { on := 1, ground := Go.Ground.phase }, { on := 2, ground := Go.Ground.phase }, { on := 3, ground := Go.Ground.phase }, { on := 4, ground := Go.Ground.phase }, { on := 5, ground := Go.Ground.phase }, { on := 6, ground := Go.Ground.phase }, { on := 7, ground := Go.Ground.phase }, { on := 8, ground := Go.Ground.phase }, { on := 9, ground := Go.Ground.phase }, { on := 10, ground := Go.Ground.phase }, { on := 11, ground := Go.Ground.phase }, { on := 12, ground := Go.Ground.phase }, { on := 13, ground := Go.Ground.phase }, { on := 14, ground := Go.Ground.phase }, { on := 15, ground := Go.Ground.phase }, { on := 16, ground := Go.Ground.phase }], guard := none }) (v := ?v28) rfl (by kernel_rfl) (by kernel_rfl) (by kernel_rfl) (fun _ _ _ h => h) (Or.inl ⟨by kernel_rfl, ?h28⟩) (by assumption) ?r28
                    case h28 => (intro w hSw; (try dsimp only at hSw); go_simp; try with_reducible rfl)
                    try simp only [Act.put, List.setIfInBounds_toArray, List.set_cons_zero, List.set_cons_succ]
                    refine wpAnyH_done (by kernel_rfl) ?_ _
                    go_wp2
                    go_roundw
                    case rel => exact ⟨j + 1, q3 + 1, false, by omega, rfl, by go_num, hb2, rfl⟩
                    case measure => simp [intOf]; omega
                  | true =>
                    have hbt := hb.out.1 rfl
                    have hb3 : Hid (P1 j → (true = true ↔ (bq = true ∧ ∀ t, t < j + 1 → P1 t))) := Lib.hid (fun hp => ⟨fun _ => ⟨hbt.1, fun t ht => by
                      by_cases e : t = j
                      · rw [e]; exact hp
                      · exact hbt.2 t (by omega)⟩, fun _ => rfl⟩)
                    have hb4 : Hid (¬ P1 j → (false = true ↔ (bq = true ∧ ∀ t, t < j + 1 → P1 t))) := Lib.hid (fun hp => ⟨fun h => (by cases h), fun h => absurd (h.2 j (by omega)) hp⟩)
                    clear hb hbt
                    by_cases hji : j = i
                    · have hb5 := Lib.hid (hb3.out ((hP1'.out j).2 (.inl hji)))
                      have e1 : ((j : Int) == (i : Int)) = true := by rw [hji]; simp
                      have e2 : (j == i) = true := by rw [hji]; simp
                      have hji' := Lib.hid hji
                      clear hb3 hb4 hji
                      go_wp2
                      refine wp_drawn_on (fun W => ∃ j, W = G.drewN j) (by kernel_rfl) (⟨q3 + 1, rfl⟩) (fun hHeld => ?_)
                      refine wpAnyH_take (i := 0) (oi := { dst := some 131, op := Go.Op.move (Go.Operand.tmp 14), type := 4, pos := "law.go:79", after := #[], guard := none }) (v := ?v29) rfl (by kernel_rfl) (by kernel_rfl) (by kernel_rfl) (fun _ _ _ h => h) (Or.inl ⟨by kernel_rfl, ?h29⟩) (by assumption) ?r29
                      case h29 => (intro w hSw; (try dsimp only at hSw); go_simp; try with_reducible rfl)
                      try simp only [Act.put, List.setIfInBounds_toArray, List.set_cons_zero, List.set_cons_succ]
                      refine wpAnyH_take (i := 1) (oi := { dst := some 132, op := Go.Op.move (Go.Operand.tmp 131), type := 4, pos := "law.go:79", after := #[{ on := 0, ground := Go.Ground.data }], guard := none }) (v := ?v30) rfl (by kernel_rfl) (by kernel_rfl) (by kernel_rfl) (fun _ _ _ h => h) (Or.inl ⟨by kernel_rfl, ?h30⟩) (by assumption) ?r30
                      case h30 => (intro w hSw; (try dsimp only at hSw); go_simp; try with_reducible rfl)
                      try simp only [Act.put, List.setIfInBounds_toArray, List.set_cons_zero, List.set_cons_succ]
                      refine wpAnyH_take (i := 2) (oi := { dst := some 133, op := Go.Op.move (Go.Operand.tmp 15), type := 3, pos := "law.go:79", after := #[{ on := 1, ground := Go.Ground.guard }], guard := some (1, true) }) (v := ?v31) rfl (by kernel_rfl) (by kernel_rfl) (by kernel_rfl) (fun _ _ _ h => h) (Or.inl ⟨by kernel_rfl, ?h31⟩) (by assumption) ?r31
                      case h31 => (intro w hSw; (try dsimp only at hSw); go_simp; try with_reducible rfl)
                      try simp only [Act.put, List.setIfInBounds_toArray, List.set_cons_zero, List.set_cons_succ]
                      refine wpAnyH_take (i := 3) (oi := { dst := some 134, op := Go.Op.move (Go.Operand.tmp 12), type := 3, pos := "law.go:79", after := #[{ on := 1, ground := Go.Ground.guard }], guard := some (1, true) }) (v := ?v32) rfl (by kernel_rfl) (by kernel_rfl) (by kernel_rfl) (fun _ _ _ h => h) (Or.inl ⟨by kernel_rfl, ?h32⟩) (by assumption) ?r32
                      case h32 => (intro w hSw; (try dsimp only at hSw); go_simp; try with_reducible rfl)
                      try simp only [Act.put, List.setIfInBounds_toArray, List.set_cons_zero, List.set_cons_succ]
                      refine wpAnyH_take (i := 4) (oi := { dst := some 135, op := Go.Op.binOp Go.BinOp.eql 3 (Go.Operand.tmp 133) (Go.Operand.tmp 134) 3, type := 4, pos := "law.go:79", after := #[{ on := 2, ground := Go.Ground.data }, { on := 3, ground := Go.Ground.data }, { on := 1, ground := Go.Ground.guard }], guard := some (1, true) }) (v := ?v33) rfl (by kernel_rfl) (by kernel_rfl) (by kernel_rfl) (fun _ _ _ h => h) (Or.inl ⟨by kernel_rfl, ?h33⟩) (by assumption) ?r33
                      case h33 => (intro w hSw; (try dsimp only at hSw); go_simp; try with_reducible rfl)
                      try simp only [Act.put, List.setIfInBounds_toArray, List.set_cons_zero, List.set_cons_succ]
                      refine wpAnyH_take (i := 5) (oi := { dst := some 136, op := Go.Op.move (Go.Operand.tmp 135), type := 4, pos := "law.go:79", after := #[{ on := 4, ground := Go.Ground.data }, { on := 1, ground := Go.Ground.chain }, { on := 1, ground := Go.Ground.guard }], guard := some (1, true) }) (v := ?v34) rfl (by kernel_rfl) (by kernel_rfl) (by kernel_rfl) (fun _ _ _ h => h) (Or.inl ⟨by kernel_rfl, ?h34⟩) (by assumption) ?r34
                      case h34 => (intro w hSw; (try dsimp only at hSw); go_simp; try with_reducible rfl)
                      try simp only [Act.put, List.setIfInBounds_toArray, List.set_cons_zero, List.set_cons_succ]
                      refine wpAnyH_take (i := 6) (oi := { dst := some 137, op := Go.Op.move (Go.Operand.tmp 0), type := 22, pos := "law.go:79", after := #[{ on := 5, ground := Go.Ground.guard }], guard := some (5, false) }) (v := undef) rfl (by kernel_rfl) (by kernel_rfl) (by kernel_rfl) (fun _ _ _ h => h) (Or.inr ⟨by kernel_rfl, rfl⟩) (by assumption) ?_
                      try simp only [Act.put, List.setIfInBounds_toArray, List.set_cons_zero, List.set_cons_succ]
                      refine wpAnyH_take (i := 7) (oi := { dst := some 138, op := Go.Op.move (Go.Operand.tmp 15), type := 3, pos := "law.go:79", after := #[{ on := 5, ground := Go.Ground.guard }], guard := some (5, false) }) (v := undef) rfl (by kernel_rfl) (by kernel_rfl) (by kernel_rfl) (fun _ _ _ h => h) (Or.inr ⟨by kernel_rfl, rfl⟩) (by assumption) ?_
                      try simp only [Act.put, List.setIfInBounds_toArray, List.set_cons_zero, List.set_cons_succ]
                      refine wpAnyH_take (i := 8) (oi := { dst := some 139, op := Go.Op.indexAddr 22 (Go.Operand.tmp 137) (Go.Operand.tmp 138), type := 0, pos := "law.go:79", after := #[{ on := 6, ground := Go.Ground.data }, { on := 7, ground := Go.Ground.data }, { on := 5, ground := Go.Ground.guard }], guard := some (5, false) }) (v := undef) rfl (by kernel_rfl) (by kernel_rfl) (by kernel_rfl) (fun _ _ _ h => h) (Or.inr ⟨by kernel_rfl, rfl⟩) (by assumption) ?_
                      try simp only [Act.put, List.setIfInBounds_toArray, List.set_cons_zero, List.set_cons_succ]
                      refine wpAnyH_take (i := 9) (oi := { dst := some 140, op := Go.Op.load 24 (Go.Operand.tmp 139), type := 24, pos := "law.go:79", after := #[{ on := 8, ground := Go.Ground.data }, { on := 5, ground := Go.Ground.guard }], guard := some (5, false) }) (v := undef) rfl (by kernel_rfl) (by kernel_rfl) (by kernel_rfl) (fun _ _ _ h => h) (Or.inr ⟨by kernel_rfl, rfl⟩) (by assumption) ?_
                      try simp only [Act.put, List.setIfInBounds_toArray, List.set_cons_zero, List.set_cons_succ]
                      refine wpAnyH_take (i := 10) (oi := { dst := some 141, op := Go.Op.move (Go.Operand.tmp 0), type := 22, pos := "law.go:79", after := #[{ on := 5, ground := Go.Ground.guard }], guard := some (5, false) }) (v := undef) rfl (by kernel_rfl) (by kernel_rfl) (by kernel_rfl) (fun _ _ _ h => h) (Or.inr ⟨by kernel_rfl, rfl⟩) (by assumption) ?_
                      try simp only [Act.put, List.setIfInBounds_toArray, List.set_cons_zero, List.set_cons_succ]
                      refine wpAnyH_take (i := 11) (oi := { dst := some 142, op := Go.Op.move (Go.Operand.tmp 12), type := 3, pos := "law.go:79", after := #[{ on := 5, ground := Go.Ground.guard }], guard := some (5, false) }) (v := undef) rfl (by kernel_rfl) (by kernel_rfl) (by kernel_rfl) (fun _ _ _ h => h) (Or.inr ⟨by kernel_rfl, rfl⟩) (by assumption) ?_
                      try simp only [Act.put, List.setIfInBounds_toArray, List.set_cons_zero, List.set_cons_succ]
                      refine wpAnyH_take (i := 12) (oi := { dst := some 143, op := Go.Op.indexAddr 22 (Go.Operand.tmp 141) (Go.Operand.tmp 142), type := 0, pos := "law.go:79", after := #[{ on := 10, ground := Go.Ground.data }, { on := 11, ground := Go.Ground.data }, { on := 5, ground := Go.Ground.guard }], guard := some (5, false) }) (v := undef) rfl (by kernel_rfl) (by kernel_rfl) (by kernel_rfl) (fun _ _ _ h => h) (Or.inr ⟨by kernel_rfl, rfl⟩) (by assumption) ?_
                      try simp only [Act.put, List.setIfInBounds_toArray, List.set_cons_zero, List.set_cons_succ]
                      refine wpAnyH_take (i := 13) (oi := { dst := some 144, op := Go.Op.load 24 (Go.Operand.tmp 143), type := 24, pos := "law.go:79", after := #[{ on := 12, ground := Go.Ground.data }, { on := 5, ground := Go.Ground.guard }], guard := some (5, false) }) (v := undef) rfl (by kernel_rfl) (by kernel_rfl) (by kernel_rfl) (fun _ _ _ h => h) (Or.inr ⟨by kernel_rfl, rfl⟩) (by assumption) ?_
                      try simp only [Act.put, List.setIfInBounds_toArray, List.set_cons_zero, List.set_cons_succ]
                      refine wpAnyH_take (i := 14) (oi := { dst := some 145, op := Go.Op.binOp Go.BinOp.neq 24 (Go.Operand.tmp 140) (Go.Operand.tmp 144) 24, type := 4, pos := "law.go:79", after := #[{ on := 9, ground := Go.Ground.data }, { on := 13, ground := Go.Ground.data }, { on := 5, ground := Go.Ground.guard }], guard := some (5, false) }) (v := undef) rfl (by kernel_rfl) (by kernel_rfl) (by kernel_rfl) (fun _ _ _ h => h) (Or.inr ⟨by kernel_rfl, rfl⟩) (by assumption) ?_
                      try simp only [Act.put, List.setIfInBounds_toArray, List.set_cons_zero, List.set_cons_succ]
                      refine wpAnyH_take (i := 15) (oi := { dst := some 146, op := Go.Op.pick (Go.Operand.tmp 136) (Go.Operand.const (Go.Value.bool true)) (Go.Operand.tmp 145), type := 4, pos := "law.go:79", after := #[{ on := 5, ground := Go.Ground.data }, { on := 14, ground := Go.Ground.data }, { on := 1, ground := Go.Ground.guard }], guard := some (1, true) }) (v := ?v44) rfl (by kernel_rfl) (by kernel_rfl) (by kernel_rfl) (fun _ _ _ h => h) (Or.inl ⟨by kernel_rfl, ?h44⟩) (by assumption) ?r44
                      case h44 => (intro w hSw; (try dsimp only at hSw); go_simp; try with_reducible rfl)
                      try simp only [Act.put, List.setIfInBounds_toArray, List.set_cons_zero, List.set_cons_succ]
                      refine wpAnyH_take (i := 16) (oi := { dst := some 147, op := Go.Op.pick (Go.Operand.tmp 132) (Go.Operand.tmp 146) (Go.Operand.const (Go.Value.bool false)), type := 4, pos := "law.go:79", after := #[{ on := 1, ground := Go.Ground.data }, { on := 15, ground := Go.Ground.data }], guard := none }) (v := ?v45) rfl (by kernel_rfl) (by kernel_rfl) (by kernel_rfl) (fun _ _ _ h => h) (Or.inl ⟨by kernel_rfl, ?h45⟩) (by assumption) ?r45
                      case h45 => (intro w hSw; (try dsimp only at hSw); go_simp; try with_reducible rfl)
                      try simp only [Act.put, List.setIfInBounds_toArray, List.set_cons_zero, List.set_cons_succ]
                      refine wpAnyH_take (i := 17) (oi := { dst := some 14, op := Go.Op.assign (Go.Operand.tmp 147), type := 4, pos := "law.go:79", after := #[{ on := 16, ground := Go.Ground.data }, { on := 5, ground := Go.Ground.chain }, { on := 0, ground := Go.Ground.phase }, { on := 1, ground := Go.Ground.phase }, { on := 2, ground := Go.Ground.phase }, { on := 3, ground := Go.Ground.phase }, { on := 4, ground := Go.Ground.phase }, { on := 5, ground := Go.Ground.phase }, { on := 6, ground := Go.Ground.phase }, { on := 7, ground := Go.Ground.phase }, { on := 8, ground := Go.Ground.phase }, { on := 9, ground := Go.Ground.phase }, { on := 10, ground := Go.Ground.phase }, { on := 11, ground := Go.Ground.phase }, { on := 12, ground := Go.Ground.phase }, { on := 13, ground := Go.Ground.phase }, { on := 14, ground := Go.Ground.phase }, { on := 15, ground := Go.Ground.phase }, { on := 16, ground := Go.Ground.phase }], guard := none }) (v := ?v46) rfl (by kernel_rfl) (by kernel_rfl) (by kernel_rfl) (fun _ _ _ h => h) (Or.inl ⟨by kernel_rfl, ?h46⟩) (by assumption) ?r46
                      case h46 => (intro w hSw; (try dsimp only at hSw); go_simp; try with_reducible rfl)
                      try simp only [Act.put, List.setIfInBounds_toArray, List.set_cons_zero, List.set_cons_succ]
                      refine wpAnyH_done (by kernel_rfl) ?_ _
                      clear e1 e2
                      go_wp2
                      go_roundw
                      case rel => exact ⟨j + 1, q3 + 1, true, by omega, rfl, by go_num, Lib.hid ⟨fun _ => (by have q := hb5.out; simpa using q), fun _ => rfl⟩, rfl⟩
                      case measure => simp [intOf]; omega
                    · have e1 : ((j : Int) == (i : Int)) = false := by rw [beq_eq_false_iff_ne]; omega
                      have e2 : (j == i) = false := by rw [beq_eq_false_iff_ne]; exact hji
                      obtain ⟨c1, hc1⟩ := hm1.out j hjn2
                      obtain ⟨b2, o2, hbb, -, z0, z1, z2, z3, z4, z5⟩ := hXc.out j hjn2
                      injection hbb with hbb
                      injection hbb with hb1 hb2
                      subst hb1 hb2
                      have hb6 : Hid (c1 = true ↔ (bq = true ∧ ∀ t, t < j + 1 → P1 t)) := Lib.hid (by
                        cases c1 with
                        | true => exact hb3.out ((hP1'.out j).2 (.inr (by first | exact hc1.1 rfl | (rw [hX'.out]; exact hc1.1 rfl))))
                        | false => exact hb4.out (fun h => ((hP1'.out j).1 h).elim hji (fun h2 => by have := hc1.2 (by first | exact h2 | (rw [hX'.out] at h2; exact h2)); cases this)))
                      have hag2 := Lib.hid (hat.out j c1 hc1)
                      clear hb3 hb4 hji hc1
                      have s0 : ∀ W, (∃ j, W = G.drewN j) → W.cell? ⟨bl, ol + j * 6, none⟩ = some (.int .i64 (l.getD j al0).kind) := fun W hW => by obtain ⟨j, rfl⟩ := hW; exact z0
                      have s1 : ∀ W, (∃ j, W = G.drewN j) → W.cell? ⟨bl, ol + j * 6 + 1, none⟩ = some (.int .i64 (l.getD j al0).sev) := fun W hW => by obtain ⟨j, rfl⟩ := hW; exact z1
                      have s2 : ∀ W, (∃ j, W = G.drewN j) → W.cell? ⟨bl, ol + j * 6 + 2, none⟩ = some (.string (l.getD j al0).fn) := fun W hW => by obtain ⟨j, rfl⟩ := hW; exact z2
                      have s3 : ∀ W, (∃ j, W = G.drewN j) → W.cell? ⟨bl, ol + j * 6 + 3, none⟩ = some (.string (l.getD j al0).file) := fun W hW => by obtain ⟨j, rfl⟩ := hW; exact z3
                      have s4 : ∀ W, (∃ j, W = G.drewN j) → W.cell? ⟨bl, ol + j * 6 + 4, none⟩ = some (.int .i64 (l.getD j al0).line) := fun W hW => by obtain ⟨j, rfl⟩ := hW; exact z4
                      have s5 : ∀ W, (∃ j, W = G.drewN j) → W.cell? ⟨bl, ol + j * 6 + 5, none⟩ = some (.string (l.getD j al0).expr) := fun W hW => by obtain ⟨j, rfl⟩ := hW; exact z5
                      clear z0 z1 z2 z3 z4 z5
                      generalize l.getD j al0 = ZZ at *
                      obtain ⟨dk, dv, df, di, dl, dx⟩ := ZZ
                      dsimp only at s0 s1 s2 s3 s4 s5
                      go_wp2
                      refine wp_drawn_on (fun W => ∃ j, W = G.drewN j) (by kernel_rfl) (⟨q3 + 1, rfl⟩) (fun hHeld => ?_)
                      refine wpAnyH_take (i := 0) (oi := { dst := some 131, op := Go.Op.move (Go.Operand.tmp 14), type := 4, pos := "law.go:79", after := #[], guard := none }) (v := ?v47) rfl (by kernel_rfl) (by kernel_rfl) (by kernel_rfl) (fun _ _ _ h => h) (Or.inl ⟨by kernel_rfl, ?h47⟩) (by assumption) ?r47
                      case h47 => (intro w hSw; (try dsimp only at hSw); go_simp; try with_reducible rfl)
                      try simp only [Act.put, List.setIfInBounds_toArray, List.set_cons_zero, List.set_cons_succ]
                      refine wpAnyH_take (i := 1) (oi := { dst := some 132, op := Go.Op.move (Go.Operand.tmp 131), type := 4, pos := "law.go:79", after := #[{ on := 0, ground := Go.Ground.data }], guard := none }) (v := ?v48) rfl (by kernel_rfl) (by kernel_rfl) (by kernel_rfl) (fun _ _ _ h => h) (Or.inl ⟨by kernel_rfl, ?h48⟩) (by assumption) ?r48
                      case h48 => (intro w hSw; (try dsimp only at hSw); go_simp; try with_reducible rfl)
                      try simp only [Act.put, List.setIfInBounds_toArray, List.set_cons_zero, List.set_cons_succ]
                      refine wpAnyH_take (i := 2) (oi := { dst := some 133, op := Go.Op.move (Go.Operand.tmp 15), type := 3, pos := "law.go:79", after := #[{ on := 1, ground := Go.Ground.guard }], guard := some (1, true) }) (v := ?v49) rfl (by kernel_rfl) (by kernel_rfl) (by kernel_rfl) (fun _ _ _ h => h) (Or.inl ⟨by kernel_rfl, ?h49⟩) (by assumption) ?r49
                      case h49 => (intro w hSw; (try dsimp only at hSw); go_simp; try with_reducible rfl)
                      try simp only [Act.put, List.setIfInBounds_toArray, List.set_cons_zero, List.set_cons_succ]
                      refine wpAnyH_take (i := 3) (oi := { dst := some 134, op := Go.Op.move (Go.Operand.tmp 12), type := 3, pos := "law.go:79", after := #[{ on := 1, ground := Go.Ground.guard }], guard := some (1, true) }) (v := ?v50) rfl (by kernel_rfl) (by kernel_rfl) (by kernel_rfl) (fun _ _ _ h => h) (Or.inl ⟨by kernel_rfl, ?h50⟩) (by assumption) ?r50
                      case h50 => (intro w hSw; (try dsimp only at hSw); go_simp; try with_reducible rfl)
                      try simp only [Act.put, List.setIfInBounds_toArray, List.set_cons_zero, List.set_cons_succ]
                      refine wpAnyH_take (i := 4) (oi := { dst := some 135, op := Go.Op.binOp Go.BinOp.eql 3 (Go.Operand.tmp 133) (Go.Operand.tmp 134) 3, type := 4, pos := "law.go:79", after := #[{ on := 2, ground := Go.Ground.data }, { on := 3, ground := Go.Ground.data }, { on := 1, ground := Go.Ground.guard }], guard := some (1, true) }) (v := ?v51) rfl (by kernel_rfl) (by kernel_rfl) (by kernel_rfl) (fun _ _ _ h => h) (Or.inl ⟨by kernel_rfl, ?h51⟩) (by assumption) ?r51
                      case h51 => (intro w hSw; (try dsimp only at hSw); go_simp; try with_reducible rfl)
                      try simp only [Act.put, List.setIfInBounds_toArray, List.set_cons_zero, List.set_cons_succ]
                      refine wpAnyH_take (i := 5) (oi := { dst := some 136, op := Go.Op.move (Go.Operand.tmp 135), type := 4, pos := "law.go:79", after := #[{ on := 4, ground := Go.Ground.data }, { on := 1, ground := Go.Ground.chain }, { on := 1, ground := Go.Ground.guard }], guard := some (1, true) }) (v := ?v52) rfl (by kernel_rfl) (by kernel_rfl) (by kernel_rfl) (fun _ _ _ h => h) (Or.inl ⟨by kernel_rfl, ?h52⟩) (by assumption) ?r52
                      case h52 => (intro w hSw; (try dsimp only at hSw); go_simp; try with_reducible rfl)
                      try simp only [Act.put, List.setIfInBounds_toArray, List.set_cons_zero, List.set_cons_succ]
                      refine wpAnyH_take (i := 6) (oi := { dst := some 137, op := Go.Op.move (Go.Operand.tmp 0), type := 22, pos := "law.go:79", after := #[{ on := 5, ground := Go.Ground.guard }], guard := some (5, false) }) (v := ?v53) rfl (by kernel_rfl) (by kernel_rfl) (by kernel_rfl) (fun _ _ _ h => h) (Or.inl ⟨by kernel_rfl, ?h53⟩) (by assumption) ?r53
                      case h53 => (intro w hSw; (try dsimp only at hSw); go_simp; try with_reducible rfl)
                      try simp only [Act.put, List.setIfInBounds_toArray, List.set_cons_zero, List.set_cons_succ]
                      refine wpAnyH_take (i := 7) (oi := { dst := some 138, op := Go.Op.move (Go.Operand.tmp 15), type := 3, pos := "law.go:79", after := #[{ on := 5, ground := Go.Ground.guard }], guard := some (5, false) }) (v := ?v54) rfl (by kernel_rfl) (by kernel_rfl) (by kernel_rfl) (fun _ _ _ h => h) (Or.inl ⟨by kernel_rfl, ?h54⟩) (by assumption) ?r54
                      case h54 => (intro w hSw; (try dsimp only at hSw); go_simp; try with_reducible rfl)
                      try simp only [Act.put, List.setIfInBounds_toArray, List.set_cons_zero, List.set_cons_succ]
                      refine wpAnyH_take (i := 8) (oi := { dst := some 139, op := Go.Op.indexAddr 22 (Go.Operand.tmp 137) (Go.Operand.tmp 138), type := 0, pos := "law.go:79", after := #[{ on := 6, ground := Go.Ground.data }, { on := 7, ground := Go.Ground.data }, { on := 5, ground := Go.Ground.guard }], guard := some (5, false) }) (v := ?v55) rfl (by kernel_rfl) (by kernel_rfl) (by kernel_rfl) (fun _ _ _ h => h) (Or.inl ⟨by kernel_rfl, ?h55⟩) (by assumption) ?r55
                      case h55 => (intro w hSw; (try dsimp only at hSw); go_simp; try with_reducible rfl)
                      try simp only [Act.put, List.setIfInBounds_toArray, List.set_cons_zero, List.set_cons_succ]
                      refine wpAnyH_take (i := 9) (oi := { dst := some 140, op := Go.Op.load 24 (Go.Operand.tmp 139), type := 24, pos := "law.go:79", after := #[{ on := 8, ground := Go.Ground.data }, { on := 5, ground := Go.Ground.guard }], guard := some (5, false) }) (v := ?v56) rfl (by kernel_rfl) (by kernel_rfl) (by kernel_rfl) (fun _ _ _ h => h) (Or.inl ⟨by kernel_rfl, ?h56⟩) (by assumption) ?r56
                      case h56 => (intro w hSw; (try dsimp only at hSw); go_simp; try with_reducible rfl)
                      try simp only [Act.put, List.setIfInBounds_toArray, List.set_cons_zero, List.set_cons_succ]
                      refine wpAnyH_take (i := 10) (oi := { dst := some 141, op := Go.Op.move (Go.Operand.tmp 0), type := 22, pos := "law.go:79", after := #[{ on := 5, ground := Go.Ground.guard }], guard := some (5, false) }) (v := ?v57) rfl (by kernel_rfl) (by kernel_rfl) (by kernel_rfl) (fun _ _ _ h => h) (Or.inl ⟨by kernel_rfl, ?h57⟩) (by assumption) ?r57
                      case h57 => (intro w hSw; (try dsimp only at hSw); go_simp; try with_reducible rfl)
                      try simp only [Act.put, List.setIfInBounds_toArray, List.set_cons_zero, List.set_cons_succ]
                      refine wpAnyH_take (i := 11) (oi := { dst := some 142, op := Go.Op.move (Go.Operand.tmp 12), type := 3, pos := "law.go:79", after := #[{ on := 5, ground := Go.Ground.guard }], guard := some (5, false) }) (v := ?v58) rfl (by kernel_rfl) (by kernel_rfl) (by kernel_rfl) (fun _ _ _ h => h) (Or.inl ⟨by kernel_rfl, ?h58⟩) (by assumption) ?r58
                      case h58 => (intro w hSw; (try dsimp only at hSw); go_simp; try with_reducible rfl)
                      try simp only [Act.put, List.setIfInBounds_toArray, List.set_cons_zero, List.set_cons_succ]
                      refine wpAnyH_take (i := 12) (oi := { dst := some 143, op := Go.Op.indexAddr 22 (Go.Operand.tmp 141) (Go.Operand.tmp 142), type := 0, pos := "law.go:79", after := #[{ on := 10, ground := Go.Ground.data }, { on := 11, ground := Go.Ground.data }, { on := 5, ground := Go.Ground.guard }], guard := some (5, false) }) (v := ?v59) rfl (by kernel_rfl) (by kernel_rfl) (by kernel_rfl) (fun _ _ _ h => h) (Or.inl ⟨by kernel_rfl, ?h59⟩) (by assumption) ?r59
                      case h59 => (intro w hSw; (try dsimp only at hSw); go_simp; try with_reducible rfl)
                      try simp only [Act.put, List.setIfInBounds_toArray, List.set_cons_zero, List.set_cons_succ]
                      refine wpAnyH_take (i := 13) (oi := { dst := some 144, op := Go.Op.load 24 (Go.Operand.tmp 143), type := 24, pos := "law.go:79", after := #[{ on := 12, ground := Go.Ground.data }, { on := 5, ground := Go.Ground.guard }], guard := some (5, false) }) (v := ?v60) rfl (by kernel_rfl) (by kernel_rfl) (by kernel_rfl) (fun _ _ _ h => h) (Or.inl ⟨by kernel_rfl, ?h60⟩) (by assumption) ?r60
                      case h60 => (intro w hSw; (try dsimp only at hSw); go_simp; try with_reducible rfl)
                      try simp only [Act.put, List.setIfInBounds_toArray, List.set_cons_zero, List.set_cons_succ]
                      refine wpAnyH_take (i := 14) (oi := { dst := some 145, op := Go.Op.binOp Go.BinOp.neq 24 (Go.Operand.tmp 140) (Go.Operand.tmp 144) 24, type := 4, pos := "law.go:79", after := #[{ on := 9, ground := Go.Ground.data }, { on := 13, ground := Go.Ground.data }, { on := 5, ground := Go.Ground.guard }], guard := some (5, false) }) (v := ?v61) rfl (by kernel_rfl) (by kernel_rfl) (by kernel_rfl) (fun _ _ _ h => h) (Or.inl ⟨by kernel_rfl, ?h61⟩) (by assumption) ?r61
                      case h61 => (intro w hSw; (try dsimp only at hSw); refine Eq.trans (b := Result.ok (Next.value (.bool c1)) w) (by go_simp; exact fag_cmp' ⟨dk, dv, df, di, dl, dx⟩ ⟨ak, av, af, ai, al, ax⟩ (fun b => Result.ok (Next.value (Value.bool b)) w) c1 hag2.out) ?_; with_reducible rfl)
                      try simp only [Act.put, List.setIfInBounds_toArray, List.set_cons_zero, List.set_cons_succ]
                      refine wpAnyH_take (i := 15) (oi := { dst := some 146, op := Go.Op.pick (Go.Operand.tmp 136) (Go.Operand.const (Go.Value.bool true)) (Go.Operand.tmp 145), type := 4, pos := "law.go:79", after := #[{ on := 5, ground := Go.Ground.data }, { on := 14, ground := Go.Ground.data }, { on := 1, ground := Go.Ground.guard }], guard := some (1, true) }) (v := ?v62) rfl (by kernel_rfl) (by kernel_rfl) (by kernel_rfl) (fun _ _ _ h => h) (Or.inl ⟨by kernel_rfl, ?h62⟩) (by assumption) ?r62
                      case h62 => (intro w hSw; (try dsimp only at hSw); go_simp; try with_reducible rfl)
                      try simp only [Act.put, List.setIfInBounds_toArray, List.set_cons_zero, List.set_cons_succ]
                      refine wpAnyH_take (i := 16) (oi := { dst := some 147, op := Go.Op.pick (Go.Operand.tmp 132) (Go.Operand.tmp 146) (Go.Operand.const (Go.Value.bool false)), type := 4, pos := "law.go:79", after := #[{ on := 1, ground := Go.Ground.data }, { on := 15, ground := Go.Ground.data }], guard := none }) (v := ?v63) rfl (by kernel_rfl) (by kernel_rfl) (by kernel_rfl) (fun _ _ _ h => h) (Or.inl ⟨by kernel_rfl, ?h63⟩) (by assumption) ?r63
                      case h63 => (intro w hSw; (try dsimp only at hSw); go_simp; try with_reducible rfl)
                      try simp only [Act.put, List.setIfInBounds_toArray, List.set_cons_zero, List.set_cons_succ]
                      refine wpAnyH_take (i := 17) (oi := { dst := some 14, op := Go.Op.assign (Go.Operand.tmp 147), type := 4, pos := "law.go:79", after := #[{ on := 16, ground := Go.Ground.data }, { on := 5, ground := Go.Ground.chain }, { on := 0, ground := Go.Ground.phase }, { on := 1, ground := Go.Ground.phase }, { on := 2, ground := Go.Ground.phase }, { on := 3, ground := Go.Ground.phase }, { on := 4, ground := Go.Ground.phase }, { on := 5, ground := Go.Ground.phase }, { on := 6, ground := Go.Ground.phase }, { on := 7, ground := Go.Ground.phase }, { on := 8, ground := Go.Ground.phase }, { on := 9, ground := Go.Ground.phase }, { on := 10, ground := Go.Ground.phase }, { on := 11, ground := Go.Ground.phase }, { on := 12, ground := Go.Ground.phase }, { on := 13, ground := Go.Ground.phase }, { on := 14, ground := Go.Ground.phase }, { on := 15, ground := Go.Ground.phase }, { on := 16, ground := Go.Ground.phase }], guard := none }) (v := ?v64) rfl (by kernel_rfl) (by kernel_rfl) (by kernel_rfl) (fun _ _ _ h => h) (Or.inl ⟨by kernel_rfl, ?h64⟩) (by assumption) ?r64
                      case h64 => (intro w hSw; (try dsimp only at hSw); go_simp; try with_reducible rfl)
                      try simp only [Act.put, List.setIfInBounds_toArray, List.set_cons_zero, List.set_cons_succ]
                      refine wpAnyH_done (by kernel_rfl) ?_ _
                      clear e1 e2 s0 s1 s2 s3 s4 s5 hag2
                      go_wp2
                      go_roundw
                      case rel => exact ⟨j + 1, q3 + 1, c1, by omega, rfl, by go_num, hb6, rfl⟩
                      case measure => simp [intOf]; omega
                · obtain rfl : j = n := by omega
                  have hjj : ¬ (j : Int) < (j : Int) := by omega
                  cases b with
                  | false =>
                    clear hb
                    go_wp2
                    refine wp_drawn_on (fun W => ∃ j, W = G.drewN j) (by kernel_rfl) (⟨q3 + 1, rfl⟩) (fun hHeld => ?_)
                    refine wpAnyH_take (i := 0) (oi := { dst := some 148, op := Go.Op.move (Go.Operand.tmp 14), type := 4, pos := "law.go:81", after := #[], guard := none }) (v := ?v65) rfl (by kernel_rfl) (by kernel_rfl) (by kernel_rfl) (fun _ _ _ h => h) (Or.inl ⟨by kernel_rfl, ?h65⟩) (by assumption) ?r65
                    case h65 => (intro w hSw; (try dsimp only at hSw); go_simp; try with_reducible rfl)
                    try simp only [Act.put, List.setIfInBounds_toArray, List.set_cons_zero, List.set_cons_succ]
                    refine wpAnyH_take (i := 1) (oi := { dst := some 149, op := Go.Op.move (Go.Operand.tmp 148), type := 4, pos := "law.go:81", after := #[{ on := 0, ground := Go.Ground.data }], guard := none }) (v := ?v66) rfl (by kernel_rfl) (by kernel_rfl) (by kernel_rfl) (fun _ _ _ h => h) (Or.inl ⟨by kernel_rfl, ?h66⟩) (by assumption) ?r66
                    case h66 => (intro w hSw; (try dsimp only at hSw); go_simp; try with_reducible rfl)
                    try simp only [Act.put, List.setIfInBounds_toArray, List.set_cons_zero, List.set_cons_succ]
                    refine wpAnyH_take (i := 2) (oi := { dst := some 150, op := Go.Op.move (Go.Operand.tmp 10), type := 36, pos := "law.go:81", after := #[{ on := 1, ground := Go.Ground.guard }], guard := some (1, true) }) (v := undef) rfl (by kernel_rfl) (by kernel_rfl) (by kernel_rfl) (fun _ _ _ h => h) (Or.inr ⟨by kernel_rfl, rfl⟩) (by assumption) ?_
                    try simp only [Act.put, List.setIfInBounds_toArray, List.set_cons_zero, List.set_cons_succ]
                    refine wpAnyH_take (i := 3) (oi := { dst := some 151, op := Go.Op.move (Go.Operand.tmp 12), type := 3, pos := "law.go:81", after := #[{ on := 1, ground := Go.Ground.guard }], guard := some (1, true) }) (v := undef) rfl (by kernel_rfl) (by kernel_rfl) (by kernel_rfl) (fun _ _ _ h => h) (Or.inr ⟨by kernel_rfl, rfl⟩) (by assumption) ?_
                    try simp only [Act.put, List.setIfInBounds_toArray, List.set_cons_zero, List.set_cons_succ]
                    refine wpAnyH_take (i := 4) (oi := { dst := some 152, op := Go.Op.indexAddr 36 (Go.Operand.tmp 150) (Go.Operand.tmp 151), type := 0, pos := "law.go:81", after := #[{ on := 2, ground := Go.Ground.data }, { on := 3, ground := Go.Ground.data }, { on := 1, ground := Go.Ground.guard }], guard := some (1, true) }) (v := undef) rfl (by kernel_rfl) (by kernel_rfl) (by kernel_rfl) (fun _ _ _ h => h) (Or.inr ⟨by kernel_rfl, rfl⟩) (by assumption) ?_
                    try simp only [Act.put, List.setIfInBounds_toArray, List.set_cons_zero, List.set_cons_succ]
                    refine wpAnyH_take (i := 5) (oi := { dst := some 153, op := Go.Op.load 29 (Go.Operand.tmp 152), type := 29, pos := "law.go:81", after := #[{ on := 4, ground := Go.Ground.data }, { on := 1, ground := Go.Ground.guard }], guard := some (1, true) }) (v := undef) rfl (by kernel_rfl) (by kernel_rfl) (by kernel_rfl) (fun _ _ _ h => h) (Or.inr ⟨by kernel_rfl, rfl⟩) (by assumption) ?_
                    try simp only [Act.put, List.setIfInBounds_toArray, List.set_cons_zero, List.set_cons_succ]
                    refine wpAnyH_take (i := 6) (oi := { dst := some 154, op := Go.Op.move (Go.Operand.tmp 11), type := 36, pos := "law.go:81", after := #[{ on := 1, ground := Go.Ground.guard }], guard := some (1, true) }) (v := undef) rfl (by kernel_rfl) (by kernel_rfl) (by kernel_rfl) (fun _ _ _ h => h) (Or.inr ⟨by kernel_rfl, rfl⟩) (by assumption) ?_
                    try simp only [Act.put, List.setIfInBounds_toArray, List.set_cons_zero, List.set_cons_succ]
                    refine wpAnyH_take (i := 7) (oi := { dst := some 155, op := Go.Op.move (Go.Operand.tmp 13), type := 3, pos := "law.go:81", after := #[{ on := 1, ground := Go.Ground.guard }], guard := some (1, true) }) (v := undef) rfl (by kernel_rfl) (by kernel_rfl) (by kernel_rfl) (fun _ _ _ h => h) (Or.inr ⟨by kernel_rfl, rfl⟩) (by assumption) ?_
                    try simp only [Act.put, List.setIfInBounds_toArray, List.set_cons_zero, List.set_cons_succ]
                    refine wpAnyH_take (i := 8) (oi := { dst := some 156, op := Go.Op.indexAddr 36 (Go.Operand.tmp 154) (Go.Operand.tmp 155), type := 0, pos := "law.go:81", after := #[{ on := 6, ground := Go.Ground.data }, { on := 7, ground := Go.Ground.data }, { on := 1, ground := Go.Ground.guard }], guard := some (1, true) }) (v := undef) rfl (by kernel_rfl) (by kernel_rfl) (by kernel_rfl) (fun _ _ _ h => h) (Or.inr ⟨by kernel_rfl, rfl⟩) (by assumption) ?_
                    try simp only [Act.put, List.setIfInBounds_toArray, List.set_cons_zero, List.set_cons_succ]
                    refine wpAnyH_take (i := 9) (oi := { dst := some 157, op := Go.Op.load 29 (Go.Operand.tmp 156), type := 29, pos := "law.go:81", after := #[{ on := 8, ground := Go.Ground.data }, { on := 1, ground := Go.Ground.guard }], guard := some (1, true) }) (v := undef) rfl (by kernel_rfl) (by kernel_rfl) (by kernel_rfl) (fun _ _ _ h => h) (Or.inr ⟨by kernel_rfl, rfl⟩) (by assumption) ?_
                    try simp only [Act.put, List.setIfInBounds_toArray, List.set_cons_zero, List.set_cons_succ]
                    refine wpAnyH_take (i := 10) (oi := { dst := some 158, op := Go.Op.binOp Go.BinOp.neq 29 (Go.Operand.tmp 153) (Go.Operand.tmp 157) 29, type := 4, pos := "law.go:81", after := #[{ on := 5, ground := Go.Ground.data }, { on := 9, ground := Go.Ground.data }, { on := 1, ground := Go.Ground.guard }], guard := some (1, true) }) (v := undef) rfl (by kernel_rfl) (by kernel_rfl) (by kernel_rfl) (fun _ _ _ h => h) (Or.inr ⟨by kernel_rfl, rfl⟩) (by assumption) ?_
                    try simp only [Act.put, List.setIfInBounds_toArray, List.set_cons_zero, List.set_cons_succ]
                    refine wpAnyH_take (i := 11) (oi := { dst := some 159, op := Go.Op.pick (Go.Operand.tmp 149) (Go.Operand.tmp 158) (Go.Operand.const (Go.Value.bool false)), type := 4, pos := "law.go:81", after := #[{ on := 1, ground := Go.Ground.data }, { on := 10, ground := Go.Ground.data }], guard := none }) (v := ?v76) rfl (by kernel_rfl) (by kernel_rfl) (by kernel_rfl) (fun _ _ _ h => h) (Or.inl ⟨by kernel_rfl, ?h76⟩) (by assumption) ?r76
                    case h76 => (intro w hSw; (try dsimp only at hSw); go_simp; try with_reducible rfl)
                    try simp only [Act.put, List.setIfInBounds_toArray, List.set_cons_zero, List.set_cons_succ]
                    refine wpAnyH_done (by kernel_rfl) ?_ _
                    go_wp2
                    go_roundw
                    case rel => exact ⟨k + 1, q3 + 1, by omega, by go_num, rfl⟩
                    case measure => simp [intOf]; omega
                  | true =>
                    have hb2 := hb.out.1 rfl
                    have heq : FL.getD i 0 = GL.getD k 0 := hkf.out (by first | exact hbq'.out.1 hb2.1 | (rw [hX'.out, hY'.out]; exact hbq'.out.1 hb2.1)) (fun t ht => by have q := (hP1'.out t).1 (hb2.2 t ht); first | exact q | (rw [hX'.out]; exact q) | (rw [hX'.out] at q; exact q))
                    obtain ⟨b7, o7, rfl, -, k1⟩ := sees_num SF.out (i := i) (by rw [hfl1'.out]; exact hin2)
                    obtain ⟨b8, o8, rfl, -, k2⟩ := sees_num SG.out (i := k) (by rw [hfl2'.out]; exact hkn2)
                    rw [heq] at k1
                    have k3 : ∀ W, (∃ j, W = G.drewN j) → W.cell? ⟨b7, o7 + i, none⟩ = some (.int .u64 (GL.getD k 0)) := fun W hW => by obtain ⟨j, rfl⟩ := hW; exact k1
                    have k4 : ∀ W, (∃ j, W = G.drewN j) → W.cell? ⟨b8, o8 + k, none⟩ = some (.int .u64 (GL.getD k 0)) := fun W hW => by obtain ⟨j, rfl⟩ := hW; exact k2
                    clear heq hb2 hb k1 k2
                    generalize GL.getD k 0 = R at *
                    go_wp2
                    refine wp_drawn_on (fun W => ∃ j, W = G.drewN j) (by kernel_rfl) (⟨q3 + 1, rfl⟩) (fun hHeld => ?_)
                    refine wpAnyH_take (i := 0) (oi := { dst := some 148, op := Go.Op.move (Go.Operand.tmp 14), type := 4, pos := "law.go:81", after := #[], guard := none }) (v := ?v77) rfl (by kernel_rfl) (by kernel_rfl) (by kernel_rfl) (fun _ _ _ h => h) (Or.inl ⟨by kernel_rfl, ?h77⟩) (by assumption) ?r77
                    case h77 => (intro w hSw; (try dsimp only at hSw); go_simp; try with_reducible rfl)
                    try simp only [Act.put, List.setIfInBounds_toArray, List.set_cons_zero, List.set_cons_succ]
                    refine wpAnyH_take (i := 1) (oi := { dst := some 149, op := Go.Op.move (Go.Operand.tmp 148), type := 4, pos := "law.go:81", after := #[{ on := 0, ground := Go.Ground.data }], guard := none }) (v := ?v78) rfl (by kernel_rfl) (by kernel_rfl) (by kernel_rfl) (fun _ _ _ h => h) (Or.inl ⟨by kernel_rfl, ?h78⟩) (by assumption) ?r78
                    case h78 => (intro w hSw; (try dsimp only at hSw); go_simp; try with_reducible rfl)
                    try simp only [Act.put, List.setIfInBounds_toArray, List.set_cons_zero, List.set_cons_succ]
                    refine wpAnyH_take (i := 2) (oi := { dst := some 150, op := Go.Op.move (Go.Operand.tmp 10), type := 36, pos := "law.go:81", after := #[{ on := 1, ground := Go.Ground.guard }], guard := some (1, true) }) (v := ?v79) rfl (by kernel_rfl) (by kernel_rfl) (by kernel_rfl) (fun _ _ _ h => h) (Or.inl ⟨by kernel_rfl, ?h79⟩) (by assumption) ?r79
                    case h79 => (intro w hSw; (try dsimp only at hSw); go_simp; try with_reducible rfl)
                    try simp only [Act.put, List.setIfInBounds_toArray, List.set_cons_zero, List.set_cons_succ]
                    refine wpAnyH_take (i := 3) (oi := { dst := some 151, op := Go.Op.move (Go.Operand.tmp 12), type := 3, pos := "law.go:81", after := #[{ on := 1, ground := Go.Ground.guard }], guard := some (1, true) }) (v := ?v80) rfl (by kernel_rfl) (by kernel_rfl) (by kernel_rfl) (fun _ _ _ h => h) (Or.inl ⟨by kernel_rfl, ?h80⟩) (by assumption) ?r80
                    case h80 => (intro w hSw; (try dsimp only at hSw); go_simp; try with_reducible rfl)
                    try simp only [Act.put, List.setIfInBounds_toArray, List.set_cons_zero, List.set_cons_succ]
                    refine wpAnyH_take (i := 4) (oi := { dst := some 152, op := Go.Op.indexAddr 36 (Go.Operand.tmp 150) (Go.Operand.tmp 151), type := 0, pos := "law.go:81", after := #[{ on := 2, ground := Go.Ground.data }, { on := 3, ground := Go.Ground.data }, { on := 1, ground := Go.Ground.guard }], guard := some (1, true) }) (v := ?v81) rfl (by kernel_rfl) (by kernel_rfl) (by kernel_rfl) (fun _ _ _ h => h) (Or.inl ⟨by kernel_rfl, ?h81⟩) (by assumption) ?r81
                    case h81 => (intro w hSw; (try dsimp only at hSw); go_simp; try with_reducible rfl)
                    try simp only [Act.put, List.setIfInBounds_toArray, List.set_cons_zero, List.set_cons_succ]
                    refine wpAnyH_take (i := 5) (oi := { dst := some 153, op := Go.Op.load 29 (Go.Operand.tmp 152), type := 29, pos := "law.go:81", after := #[{ on := 4, ground := Go.Ground.data }, { on := 1, ground := Go.Ground.guard }], guard := some (1, true) }) (v := ?v82) rfl (by kernel_rfl) (by kernel_rfl) (by kernel_rfl) (fun _ _ _ h => h) (Or.inl ⟨by kernel_rfl, ?h82⟩) (by assumption) ?r82
                    case h82 => (intro w hSw; (try dsimp only at hSw); go_simp; try with_reducible rfl)
                    try simp only [Act.put, List.setIfInBounds_toArray, List.set_cons_zero, List.set_cons_succ]
                    refine wpAnyH_take (i := 6) (oi := { dst := some 154, op := Go.Op.move (Go.Operand.tmp 11), type := 36, pos := "law.go:81", after := #[{ on := 1, ground := Go.Ground.guard }], guard := some (1, true) }) (v := ?v83) rfl (by kernel_rfl) (by kernel_rfl) (by kernel_rfl) (fun _ _ _ h => h) (Or.inl ⟨by kernel_rfl, ?h83⟩) (by assumption) ?r83
                    case h83 => (intro w hSw; (try dsimp only at hSw); go_simp; try with_reducible rfl)
                    try simp only [Act.put, List.setIfInBounds_toArray, List.set_cons_zero, List.set_cons_succ]
                    refine wpAnyH_take (i := 7) (oi := { dst := some 155, op := Go.Op.move (Go.Operand.tmp 13), type := 3, pos := "law.go:81", after := #[{ on := 1, ground := Go.Ground.guard }], guard := some (1, true) }) (v := ?v84) rfl (by kernel_rfl) (by kernel_rfl) (by kernel_rfl) (fun _ _ _ h => h) (Or.inl ⟨by kernel_rfl, ?h84⟩) (by assumption) ?r84
                    case h84 => (intro w hSw; (try dsimp only at hSw); go_simp; try with_reducible rfl)
                    try simp only [Act.put, List.setIfInBounds_toArray, List.set_cons_zero, List.set_cons_succ]
                    refine wpAnyH_take (i := 8) (oi := { dst := some 156, op := Go.Op.indexAddr 36 (Go.Operand.tmp 154) (Go.Operand.tmp 155), type := 0, pos := "law.go:81", after := #[{ on := 6, ground := Go.Ground.data }, { on := 7, ground := Go.Ground.data }, { on := 1, ground := Go.Ground.guard }], guard := some (1, true) }) (v := ?v85) rfl (by kernel_rfl) (by kernel_rfl) (by kernel_rfl) (fun _ _ _ h => h) (Or.inl ⟨by kernel_rfl, ?h85⟩) (by assumption) ?r85
                    case h85 => (intro w hSw; (try dsimp only at hSw); go_simp; try with_reducible rfl)
                    try simp only [Act.put, List.setIfInBounds_toArray, List.set_cons_zero, List.set_cons_succ]
                    refine wpAnyH_take (i := 9) (oi := { dst := some 157, op := Go.Op.load 29 (Go.Operand.tmp 156), type := 29, pos := "law.go:81", after := #[{ on := 8, ground := Go.Ground.data }, { on := 1, ground := Go.Ground.guard }], guard := some (1, true) }) (v := ?v86) rfl (by kernel_rfl) (by kernel_rfl) (by kernel_rfl) (fun _ _ _ h => h) (Or.inl ⟨by kernel_rfl, ?h86⟩) (by assumption) ?r86
                    case h86 => (intro w hSw; (try dsimp only at hSw); go_simp; try with_reducible rfl)
                    try simp only [Act.put, List.setIfInBounds_toArray, List.set_cons_zero, List.set_cons_succ]
                    refine wpAnyH_take (i := 10) (oi := { dst := some 158, op := Go.Op.binOp Go.BinOp.neq 29 (Go.Operand.tmp 153) (Go.Operand.tmp 157) 29, type := 4, pos := "law.go:81", after := #[{ on := 5, ground := Go.Ground.data }, { on := 9, ground := Go.Ground.data }, { on := 1, ground := Go.Ground.guard }], guard := some (1, true) }) (v := ?v87) rfl (by kernel_rfl) (by kernel_rfl) (by kernel_rfl) (fun _ _ _ h => h) (Or.inl ⟨by kernel_rfl, ?h87⟩) (by assumption) ?r87
                    case h87 => (intro w hSw; (try dsimp only at hSw); go_simp; try with_reducible rfl)
                    try simp only [Act.put, List.setIfInBounds_toArray, List.set_cons_zero, List.set_cons_succ]
                    refine wpAnyH_take (i := 11) (oi := { dst := some 159, op := Go.Op.pick (Go.Operand.tmp 149) (Go.Operand.tmp 158) (Go.Operand.const (Go.Value.bool false)), type := 4, pos := "law.go:81", after := #[{ on := 1, ground := Go.Ground.data }, { on := 10, ground := Go.Ground.data }], guard := none }) (v := ?v88) rfl (by kernel_rfl) (by kernel_rfl) (by kernel_rfl) (fun _ _ _ h => h) (Or.inl ⟨by kernel_rfl, ?h88⟩) (by assumption) ?r88
                    case h88 => (intro w hSw; (try dsimp only at hSw); go_simp; try with_reducible rfl)
                    try simp only [Act.put, List.setIfInBounds_toArray, List.set_cons_zero, List.set_cons_succ]
                    refine wpAnyH_done (by kernel_rfl) ?_ _
                    clear k3 k4
                    go_wp2
                    go_roundw
                    case rel => exact ⟨k + 1, q3 + 1, by omega, by go_num, rfl⟩
                    case measure => simp [intOf]; omega
            · obtain rfl : k = n := by omega
              have hkk : ¬ (k : Int) < (k : Int) := by omega
              go_wp2
              go_roundw
              case rel => exact ⟨i + 1, q2, by omega, by go_num, rfl⟩
              case measure => simp [intOf]; omega
        · obtain rfl : i = n := by omega
          have hii : ¬ (i : Int) < (i : Int) := by omega
          go_wp2
          go_ret
          exact ⟨rfl, Below.drewN hfin.out q1⟩
end Go.Proofs.Ytbpaoiajfjkmfaa
