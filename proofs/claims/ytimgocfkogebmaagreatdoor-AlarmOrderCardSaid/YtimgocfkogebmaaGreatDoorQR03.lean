/-
  Words and walks under the law's proof.
-/
import Derived.Test.YtimgocfkogebmaaGreatDoorQR01
import Derived.Test.YtimgocfkogebmaaGreatDoorQR02
namespace Go.Proofs.YtimgocfkogebmaaGreatDoor
open Go.RowKit
set_option linter.unusedVariables false
set_option linter.unusedSimpArgs false
theorem info_zone : (Tryz.prog.info? 51).map (·.size) = some 2 := by kernel_rfl
abbrev ZH (w : World) (g : Nat) (x y : Value) : Prop := Holds w g 51 #[x, y]
theorem zh_set {w : World} {g : Nat} {a b : Value} (h : ZH w g a b) (x y : Value) : ZH ((w.setCell ⟨g, 0, none⟩ x).setCell ⟨g, 1, none⟩ y) g x y := by
  have h1 := (h.set 0 x).set 1 y
  simpa using h1
theorem zone_ret {Q : Ending → World → Prop} {w : World} {g : Nat} {x y : Value} (hg : ZH w g x y) (hQ : Q (.returned (.agg #[x, y])) w) (act : Act) (f : Func) (n : Nat) (hf : f.results = #[.cell n 51]) (ha : act.tmps.getD n undef = .pointer (some ⟨g, 0, none⟩)) (hd : act.defers = []) :
    bodyPost Tryz.prog f Q Exit.ret act w :=
  bodyPost_ret (results_cell_row hf _ _ g 51 #[x, y] (0, 0) _ ha hg Tryz.underlying51 rfl (by rw [info_zone]; rfl)) hd hQ
theorem zone_res2 {fn : Func} {p q : Tmp} (h : fn.results = #[.cell p 51, .tmp q]) (tmps : Array Value) (w : World) (g : Nat) (x y u : Value)
    (hp : tmps.getD p undef = .pointer (some ⟨g, 0, none⟩)) (hq : tmps.getD q undef = u) (hg : ZH w g x y) : (results fn tmps).run Tryz.prog w = .ok (.tuple #[.agg #[x, y], u]) w := by
  rw [results_cell_tmp h, hp, hq]
  simp [asAddr, run_loadVar_row w g 51 51 #[x, y] (0, 0) _ hg Tryz.underlying51 rfl (by rw [info_zone]; rfl), Result.andThen]
theorem zone_ret2 {Q : Ending → World → Prop} {w : World} {g : Nat} {x y u : Value} (hg : ZH w g x y) (hQ : Q (.returned (.tuple #[.agg #[x, y], u])) w) (act : Act) (f : Func) (n m : Nat) (hf : f.results = #[.cell n 51, .tmp m]) (ha : act.tmps.getD n undef = .pointer (some ⟨g, 0, none⟩)) (hm : act.tmps.getD m undef = u) (hd : act.defers = []) :
    bodyPost Tryz.prog f Q Exit.ret act w :=
  bodyPost_ret (zone_res2 hf _ _ g x y u ha hm hg) hd hQ
def New (w : World) (a : Option Addr) : Prop := ∀ p, a = some p → w.heap.size ≤ p.block
theorem New.none (w : World) : New w none := by intro p hp; cases hp
theorem New.own {w w' : World} {base : Nat} {e : TypeId} {a : Option Addr} {m c n : Nat} {xs : List Value} (h : w'.ownsRow base e 1 (.slice a m c) n xs) (hb : w.heap.size ≤ base) : New w a := by
  rintro p rfl
  have := (h.lt p.block (by simp [Value.ownBlock])).1
  omega
def ZoneS (n : Int) (l : List Int) (w : World) (e : Ending) (w' : World) : Prop :=
  ∃ a c, e = .returned (.agg #[.int .i64 n, .slice a l.length c]) ∧ l.length ≤ c ∧ Sees .i64 w'.heap.size w' a l ∧ Below w.heap.size w w' ∧ New w a
def ZoneE (n : Int) (l : List Int) (err : Int) (w : World) (e : Ending) (w' : World) : Prop :=
  ∃ a c, e = .returned (.tuple #[.agg #[.int .i64 n, .slice a l.length c], .int .i64 err]) ∧ l.length ≤ c ∧ Sees .i64 w'.heap.size w' a l ∧ Below w.heap.size w w' ∧ New w a
theorem made_parts {e0 : TypeId} {w w' : World} {l : List Int} {e : Ending} (h : Made e0 .i64 w l e w') : ∃ a cap, e = .returned (.slice a l.length cap) ∧ Sees .i64 w'.heap.size w' a l ∧ Below w.heap.size w w' ∧ l.length ≤ cap := h.openc _ rfl
theorem mayB_nat {n : Nat} (hn : n ≤ 8) : mayB (n : Int) = true := by unfold mayB; simp; omega
theorem mayB_of {n : Int} (h : mayB n = true) : ∃ k : Nat, n = k ∧ k ≤ 8 := by
  unfold mayB at h
  rw [Bool.and_eq_true, decide_eq_true_eq, decide_eq_true_eq] at h
  exact ⟨n.toNat, by omega, by omega⟩
theorem zone_end {w W1 w3 : World} {g : Nat} {z0 z1 : Value} {R : List Int} {e : Ending} (hB : Below w.heap.size w W1) (hg : w.heap.size ≤ g) (hz : ZH W1 g z0 z1) (hm : Made 3 .i64 W1 R e w3) :
    ∃ a c, e = .returned (.slice a R.length c) ∧ ZH w3 g z0 z1 ∧ ∀ n err : Int, ZH ((w3.setCell ⟨g, 0, none⟩ (.int .i64 n)).setCell ⟨g, 1, none⟩ (.slice a R.length c)) g (.int .i64 n) (.slice a R.length c) ∧
      ZoneE n R err w (.returned (.tuple #[.agg #[.int .i64 n, .slice a R.length c], .int .i64 err])) ((w3.setCell ⟨g, 0, none⟩ (.int .i64 n)).setCell ⟨g, 1, none⟩ (.slice a R.length c)) ∧
      ZoneS n R w (.returned (.agg #[.int .i64 n, .slice a R.length c])) ((w3.setCell ⟨g, 0, none⟩ (.int .i64 n)).setCell ⟨g, 1, none⟩ (.slice a R.length c)) := by
  obtain ⟨v, rfl, hown, hb⟩ := hm
  have hlt := hz.lt
  obtain ⟨a, c, rfl, -, -⟩ := sees_own hown
  have hz3 := hz.below hb hlt
  refine ⟨a, c, rfl, hz3, fun n err => ?_⟩
  have hE : BelowE [g] w3.heap.size w3 ((w3.setCell ⟨g, 0, none⟩ (.int .i64 n)).setCell ⟨g, 1, none⟩ (.slice a R.length c)) := ((BelowE.refl _ _ _).setIn (p := ⟨g, 0, none⟩) (by simp) _).setIn (p := ⟨g, 1, none⟩) (by simp) _
  have hown2 := own_belowE hown hE (fun k hk => by
    have := (hown.lt k hk).1
    simp only [List.mem_singleton]
    omega)
  obtain ⟨a', c', hv, -, hs⟩ := sees_own hown2
  injection hv with e1 _ e3
  subst e1 e3
  have hbb : Below w.heap.size w ((w3.setCell ⟨g, 0, none⟩ (.int .i64 n)).setCell ⟨g, 1, none⟩ (.slice a R.length c)) := ((hB.trans (hb.mono hB.size)).setCell (p := ⟨g, 0, none⟩) hg _).setCell (p := ⟨g, 1, none⟩) hg _
  have hnew : New w a := New.own hown hB.size
  exact ⟨zh_set hz3 _ _, ⟨a, c, rfl, own_cap hown, hs, hbb, hnew⟩, ⟨a, c, rfl, own_cap hown, hs, hbb, hnew⟩⟩
theorem zone_none {w W1 : World} {g : Nat} {z0 z1 : Value} (hB : Below w.heap.size w W1) (hg : w.heap.size ≤ g) (hz : ZH W1 g z0 z1) (n err : Int) :
    ZH ((W1.setCell ⟨g, 0, none⟩ (.int .i64 n)).setCell ⟨g, 1, none⟩ (.slice none 0 0)) g (.int .i64 n) (.slice none 0 0) ∧
      ZoneE n [] err w (.returned (.tuple #[.agg #[.int .i64 n, .slice none 0 0], .int .i64 err])) ((W1.setCell ⟨g, 0, none⟩ (.int .i64 n)).setCell ⟨g, 1, none⟩ (.slice none 0 0)) ∧
      ZoneS n [] w (.returned (.agg #[.int .i64 n, .slice none 0 0])) ((W1.setCell ⟨g, 0, none⟩ (.int .i64 n)).setCell ⟨g, 1, none⟩ (.slice none 0 0)) := by
  have hbb : Below w.heap.size w ((W1.setCell ⟨g, 0, none⟩ (.int .i64 n)).setCell ⟨g, 1, none⟩ (.slice none 0 0)) := (hB.setCell (p := ⟨g, 0, none⟩) hg _).setCell (p := ⟨g, 1, none⟩) hg _
  exact ⟨zh_set hz _ _, ⟨none, 0, rfl, Nat.le_refl _, .inl rfl, hbb, New.none _⟩, ⟨none, 0, rfl, Nat.le_refl _, .inl rfl, hbb, New.none _⟩⟩
theorem zone_new {w : World} : Below w.heap.size w (w.alloc (.cells #[.int .i64 0, .slice none 0 0] 51)) ∧ ZH (w.alloc (.cells #[.int .i64 0, .slice none 0 0] 51)) w.heap.size (.int .i64 0) (.slice none 0 0) :=
  ⟨(Below.refl _ _).alloc (Nat.le_refl _) _, Holds.new w _ _⟩
def allL (n : Nat) : List Int := matL n widestF
set_option maxRecDepth 100000 in
set_option maxHeartbeats 4000000 in
theorem rclose_any (n : Nat) (hn : n ≤ 8) (a : Option Addr) (M : List Int) (len c : Nat) (hM : len = M.length) (hl : len = sz n) (w : World) (h : Sees .i64 w.heap.size w a M) :
    Calls Tryz.prog 116 #[.int .i64 n, .slice a len c] w (ZoneS n (closedL n M) w) := by
  rw [close_both hn]
  obtain ⟨W1, hW1⟩ : ∃ W1, W1 = w.alloc (.cells #[.int .i64 0, .slice none 0 0] 51) := ⟨_, rfl⟩
  obtain ⟨hB, hz⟩ : Below w.heap.size w W1 ∧ ZH W1 w.heap.size (.int .i64 0) (.slice none 0 0) := by rw [hW1]; exact zone_new
  have hclip := Lib.hid (rclip_any n hn a M len c hM hl W1 ((h.below hB).mono hB.size))
  have hB' := Lib.hid hB
  have hz' := Lib.hid hz
  have hW1' := Lib.hid hW1
  have hn' := Lib.hid hn
  have hni : (n : Int) ≤ 8 := by omega
  have hs81 := sz_le hn
  have hres : Hid (refCloseL n M = if belowL n (sq n (clipL n M) 4) = true then [] else sq n (clipL n M) 4) := Lib.hid rfl
  have hnx : Hid (∀ t, sq n (clipL n M) (t + 1) = twL n (sq n (clipL n M) t)) := Lib.hid (fun _ => rfl)
  have hbd : Hid (∀ t, t ≤ 4 → ∀ p, -100000000000000 ≤ (sq n (clipL n M) t).getD p 0 ∧ (sq n (clipL n M) t).getD p 0 ≤ 100000000000000) := Lib.hid (fun t ht p => sq_bound ht p)
  have hln : Hid (∀ t, (sq n (clipL n M) t).length = sz n) := Lib.hid (fun t => sq_len (clip_len _ _) t)
  have hs0 : Hid (clipL n M = sq n (clipL n M) 0) := Lib.hid rfl
  clear hW1 hB hz h hM hl
  generalize refCloseL n M = R at *
  generalize hC : sq n (clipL n M) = Q at *
  generalize clipL n M = C0 at *
  clear hC
  go_enter Tryz.func116, Tryz.ntmps116
  go_wp2_with fail
  rw [← hW1'.out]
  refine hclip.out.mono ?_
  rintro e w3 ⟨v, rfl, hown, hb3⟩
  have hst : Hid (Made 3 .i64 W1 (Q 0) (.returned v) w3) := Lib.hid (by rw [← hs0.out]; exact ⟨v, rfl, hown, hb3⟩)
  clear hown hb3 hclip
  go_wp2
  go_loopw [5, 6] (fun v x wr => ∃ t : Nat, t ≤ 4 ∧ x = .int .i64 t ∧ Hid (Made 3 .i64 W1 (Q t) (.returned v) wr)) (fun _ x _ => 4 - (intOf x).toNat)
  case atStart => exact ⟨0, by omega, rfl, hst⟩
  case round =>
    clear hst
    obtain ⟨t, ht, rfl, hm⟩ := hrel
    by_cases hlt : t < 4
    · have hti : (t : Int) < 4 := by omega
      obtain ⟨a4, c4, he, s4, b4, -⟩ := made_parts hm.out
      injection he with he
      subst he
      have hle := hln.out t
      rw [hle]
      have htw := Lib.hid (twice_any n hn'.out a4 (Q t) (sz n) c4 hle.symm rfl (hbd.out t ht) wr s4)
      have b4' := Lib.hid b4
      clear hm s4 b4 hle
      go_wp2_with fail
      refine htw.out.mono ?_
      rintro e w5 ⟨v5, rfl, hown5, hb5⟩
      have hm5 : Hid (Made 3 .i64 W1 (Q (t + 1)) (.returned v5) w5) := Lib.hid (by
        rw [hnx.out]
        exact ⟨v5, rfl, own_from hown5 (fun k hk => by have := (hown5.lt k hk).1; have := b4'.out.size; omega), b4'.out.trans (hb5.mono b4'.out.size)⟩)
      clear hown5 hb5 htw
      go_wp2
      go_roundw
      case rel => exact ⟨t + 1, by omega, by go_num, hm5⟩
      case measure => simp [intOf]; omega
    · have hte : t = 4 := by omega
      subst hte
      have hm4 := hm.out
      obtain ⟨a4, c4, he, s4, b4, -⟩ := made_parts hm4
      injection he with he
      subst he
      have hle := hln.out 4
      have hz3 := hz'.out.below b4 hz'.out.lt
      obtain ⟨a5, c5, he5, -, hall⟩ := zone_end hB'.out (Nat.le_refl _) hz'.out hm4
      injection he5 with he5
      injection he5 with e1 _ e3
      subst e1 e3
      have hend := Lib.hid (hall n 0)
      have hnone := Lib.hid (zone_none (hB'.out.trans (b4.mono hB'.out.size)) (Nat.le_refl _) hz3 n 0)
      have k0 := hz3.cell 0
      have k1 := hz3.cell 1
      have f0 := hz3.free 0
      have f1 := hz3.free 1
      have s4' := Lib.hid s4
      have hle' := Lib.hid hle
      rw [hle] at hend ⊢
      clear hm hm4 s4 b4 hz3 hall hle
      generalize Q 4 = D at *
      go_wp2
      go_loop [7] (fun x => ∃ i : Nat, i ≤ n + 1 ∧ x = .int .i64 i ∧ Hid (∀ j, j < i → ¬ mat n D j j < 0)) (fun x => n + 1 - (intOf x).toNat)
      case atStart => exact ⟨0, by omega, rfl, Lib.hid (by intro j hj; omega)⟩
      case round =>
        obtain ⟨i, hin, rfl, hno⟩ := hrel
        by_cases hlt : i < n + 1
        · have hii : (i : Int) ≤ (n : Int) := by omega
          obtain ⟨p, q, w1, w2, w3, hq, hqs, -, -, -⟩ := place_wraps hn'.out (show i ≤ n by omega) (show i ≤ n by omega)
          obtain ⟨b, off, hae, -, hc⟩ := sees_at' s4'.out (i := q) (by have := hle'.out; omega)
          subst hae
          have hqi : (q : Int) < ((sz n : Nat) : Int) := by omega
          have hyes : Hid (D.getD q 0 < 0 → belowL n D = true) := Lib.hid (fun hlt0 => (belowL_iff n D).2 ⟨i, by omega, by unfold mat; rw [← hq]; exact hlt0⟩)
          have hnext : Hid (¬ D.getD q 0 < 0 → ∀ j, j < i + 1 → ¬ mat n D j j < 0) := Lib.hid (fun hlt0 j hj => by
            by_cases e : j = i
            · subst e; unfold mat; rw [← hq]; exact hlt0
            · exact hno.out j (by omega))
          clear hno hq hqs
          generalize D.getD q 0 = x at *
          by_cases hx : x < 0
          · have hr : Hid (R = []) := Lib.hid (by rw [hres.out, if_pos (hyes.out hx)])
            clear hyes hnext hend
            go_wp2
            rw [hr.out]
            exact zone_ret hnone.out.1 hnone.out.2.2 _ _ 4 rfl rfl rfl
          · have hn2 := Lib.hid (hnext.out hx)
            clear hyes hnext
            go_wp2
            go_round
            case rel => exact ⟨i + 1, by omega, by go_num, hn2⟩
            case measure => simp [intOf]; omega
        · have hie : i = n + 1 := by omega
          have hr : Hid (R = D) := Lib.hid (by
            rw [hres.out, if_neg]
            intro hb
            obtain ⟨i', hi', hl'⟩ := (belowL_iff n D).1 hb
            exact hno.out i' (by omega) hl')
          clear hno
          go_wp2
          rw [hr.out]
          exact zone_ret hend.out.1 hend.out.2.2 _ _ 4 rfl rfl rfl
end Go.Proofs.YtimgocfkogebmaaGreatDoor
namespace Go.Proofs.YtimgocfkogebmaaGreatDoor
open Go.RowKit
set_option linter.unusedVariables false
set_option linter.unusedSimpArgs false
/- What is closed stays so. -/
theorem clipL_fix {n : Nat} {D : List Int} (hl : D.length = (n + 1) * (n + 1)) (hc : Closed n (mat n D)) (hw : ∀ i j, i ≤ n → j ≤ n → mat n D i j ≤ widestF i j) : clipL n D = D := by
  refine mat_ext (clip_len _ _) hl (fun i j hi hj => ?_)
  unfold clipL
  rw [mat_matL _ hi hj]
  unfold clipF
  have h1 := hw i j hi hj
  have h2 := hw j i hj hi
  have h3 := hc.tri i i j hi hi hj
  rw [hc.zero i hi] at h3
  have h4 := widestF_le j i
  omega
theorem closedL_fix {n : Nat} {D : List Int} (hl : D.length = (n + 1) * (n + 1)) (hc : Closed n (mat n D)) (hw : ∀ i j, i ≤ n → j ≤ n → mat n D i j ≤ widestF i j) : closedL n D = D := by
  have hf := clipL_fix hl hc hw
  obtain ⟨h1, h2⟩ := closedL_max (M := D) hc (by rw [hf]; exact fun i j _ _ => Int.le_refl _)
  obtain ⟨h3, h4, h5⟩ := closedL_is (closedL_ne h1)
  rw [hf] at h5
  exact mat_ext h3 hl (fun i j hi hj => Int.le_antisymm (h5 i j hi hj) (h2 i j hi hj))
theorem closedL_widest {n : Nat} {M : List Int} (h : closedL n M ≠ []) {i j : Nat} (hi : i ≤ n) (hj : j ≤ n) : mat n (closedL n M) i j ≤ widestF i j := by
  obtain ⟨h3, h4, h5⟩ := closedL_is h
  have := h5 i j hi hj
  unfold clipL at this
  rw [mat_matL _ hi hj] at this
  have := widestF_le i j
  unfold clipF at *
  omega
theorem closedL_again {n : Nat} {M : List Int} (h : closedL n M ≠ []) : closedL n (closedL n M) = closedL n M := by
  obtain ⟨h3, h4, h5⟩ := closedL_is h
  exact closedL_fix h3 h4 (fun i j hi hj => closedL_widest h hi hj)
theorem widest_closed (n : Nat) : Closed n (mat n (allL n)) := by
  constructor
  · intro i hi
    unfold allL
    rw [mat_matL _ hi hi]
    unfold widestF
    rw [if_pos rfl]
  · intro i j k hi hj hk
    unfold allL
    rw [mat_matL _ hi hj, mat_matL _ hi hk, mat_matL _ hk hj]
    unfold widestF
    split <;> split <;> split <;> (try split) <;> (try split) <;> (try split) <;> omega
theorem all_closed (n : Nat) : closedL n (allL n) = allL n := closedL_fix (matL_len _ _) (widest_closed n) (fun i j hi hj => by unfold allL; rw [mat_matL _ hi hj]; exact Int.le_refl _)
theorem all_of (n : Nat) : closedL n (List.replicate (sz n) 4398046511104) = allL n := by
  have h1 : clipL n (List.replicate (sz n) 4398046511104) = clipL n (allL n) := by
    refine mat_ext (clip_len _ _) (clip_len _ _) (fun i j hi hj => ?_)
    unfold clipL
    rw [mat_matL _ hi hj, mat_matL _ hi hj]
    unfold clipF
    have h2 : mat n (List.replicate (sz n) 4398046511104) i j = 4398046511104 := by
      have := place_lt hi hj
      unfold mat sz
      simp [List.getD, this]
    have h3 : mat n (allL n) i j = widestF i j := mat_matL _ hi hj
    have h4 := widestF_le i j
    rw [h2, h3]
    omega
  unfold closedL
  rw [h1]
  exact all_closed n
theorem sees_other {k : IntKind} {B : Nat} {w : World} {a : Option Addr} {l : List Int} (h : Sees k B w a l) (g : Nat) (hg : ∀ p, a = some p → g ≠ p.block) (i : Nat) (v : Value) : Sees k B (w.setCell ⟨g, i, none⟩ v) a l := by
  rcases h with h | ⟨b, off, rfl, hB, hc⟩
  · exact .inl h
  · refine .inr ⟨b, off, rfl, hB, fun j hj => ?_⟩
    have hne : (⟨b, off + j, none⟩ : Addr).block ≠ g := fun e => hg _ rfl e.symm
    have := World.cell?_of_block (w := w) (w' := w.setCell ⟨g, i, none⟩ v) (a := ⟨b, off + j, none⟩) (Below.heap_setCell w ⟨g, i, none⟩ v b hne)
    rw [this]; exact hc j hj
set_option maxRecDepth 100000 in
theorem rall_any (n : Nat) (hn : n ≤ 8) (w : World) : Calls Tryz.prog 66 #[.int .i64 n] w (ZoneS n (allL n) w) := by
  obtain ⟨i0, hi, hz0, hz1, hz2⟩ := info_parts zinfoInt
  obtain ⟨W1, hW1⟩ : ∃ W1, W1 = w.alloc (.cells #[.int .i64 0, .slice none 0 0] 51) := ⟨_, rfl⟩
  obtain ⟨hB, hz⟩ : Below w.heap.size w W1 ∧ ZH W1 w.heap.size (.int .i64 0) (.slice none 0 0) := by rw [hW1]; exact zone_new
  have hrc := Lib.hid (fun a c W (h : Sees .i64 W.heap.size W a (List.replicate (sz n) 4398046511104)) => rclose_any n hn a (List.replicate (sz n) 4398046511104) (sz n) c (by simp) rfl W h)
  rw [all_of] at hrc
  have hB' := Lib.hid hB
  have hz' := Lib.hid hz
  have hW1' := Lib.hid hW1
  have hs81 := sz_le hn
  have hni : (n : Int) ≤ 8 := by omega
  have hw1 : IntKind.i64.wrap ((n : Int) + 1) = (n : Int) + 1 := wrap_small (by omega) (by omega)
  have hw2 : IntKind.i64.wrap (((n : Int) + 1) * ((n : Int) + 1)) = (sz n : Nat) := by rw [sz_int]; exact wrap_small (by omega) (by omega)
  clear hW1 hB hz
  generalize allL n = R at *
  generalize sz n = s at *
  go_enter Tryz.func66, Tryz.ntmps66
  go_wp2
  rw [← hW1'.out]
  go_loopw [3, 4] (fun v x wr => ∃ k : Nat, k ≤ s ∧ x = .int .i64 k ∧ Hid (wr.ownsRow W1.heap.size 3 1 v (List.replicate k (4398046511104 : Int)).length (nums .i64 (List.replicate k 4398046511104))) ∧ Hid (Below W1.heap.size W1 wr)) (fun _ x _ => s - (intOf x).toNat)
  case atStart => exact ⟨0, by omega, rfl, Lib.hid ⟨rfl, .inl ⟨rfl, rfl⟩⟩, Lib.hid (Below.refl _ _)⟩
  case round =>
    obtain ⟨k, hk, rfl, hown, hb⟩ := hrel
    by_cases hlt : k < s
    · have hki : (k : Int) < (s : Int) := by omega
      go_wp2_with (at_builtin; refine wpList_append1 _ rfl _ _ 49 rfl W1 3 i0 (.int .i64 0) 8 Tryz.underlying49 hi hz0 hz1 hz2 rfl .i64 4398046511104 _ _ hown.out hb.out rfl rfl (by simp; omega) (by omega) ?_; intro v' w' hown2 hb2; have hown2' := Lib.hid hown2; have hb2' := Lib.hid hb2; clear hown2 hb2)
      go_roundw
      case rel => exact ⟨k + 1, by omega, by go_num, by rw [List.replicate_succ']; exact hown2', hb2'⟩
      case measure => simp [intOf]; omega
    · have hke : k = s := by omega
      subst hke
      obtain ⟨a, c, rfl, -, hs⟩ := sees_own hown.out
      have hcall := Lib.hid (hrc.out a c wr hs)
      have hb' := Lib.hid hb.out
      have hz3 := hz'.out.below hb.out hz'.out.lt
      clear hown hb hs hrc
      simp only [List.length_replicate]
      go_wp2_with fail
      refine hcall.out.mono ?_
      rintro e w5 ⟨a5, c5, rfl, hc5, s5, b5, nw5⟩
      have hz5 := hz3.below b5 hz3.lt
      have k0 := hz5.cell 0
      have k1 := hz5.cell 1
      have f0 := hz5.free 0
      have f1 := hz5.free 1
      have hfin : Hid (ZH ((w5.setCell ⟨w.heap.size, 0, none⟩ (.int .i64 n)).setCell ⟨w.heap.size, 1, none⟩ (.slice a5 R.length c5)) w.heap.size (.int .i64 n) (.slice a5 R.length c5)) := Lib.hid (zh_set hz5 _ _)
      have hout : Hid (ZoneS n R w (.returned (.agg #[.int .i64 n, .slice a5 R.length c5])) ((w5.setCell ⟨w.heap.size, 0, none⟩ (.int .i64 n)).setCell ⟨w.heap.size, 1, none⟩ (.slice a5 R.length c5))) := Lib.hid (by
        have hne : ∀ p, a5 = some p → w.heap.size ≠ p.block := fun p hp => by have h1 := nw5 p hp; have h2 := hb'.out.size; have h3 := hz'.out.lt; omega
        have hbb : Below w.heap.size w w5 := (hB'.out.trans (hb'.out.mono hB'.out.size)).trans (b5.mono (by have h2 := hb'.out.size; have h3 := hB'.out.size; omega))
        refine ⟨a5, c5, rfl, hc5, ?_, (hbb.setCell (p := ⟨w.heap.size, 0, none⟩) (Nat.le_refl _) _).setCell (p := ⟨w.heap.size, 1, none⟩) (Nat.le_refl _) _, fun p hp => by have h1 := nw5 p hp; have h2 := hb'.out.size; have h3 := hB'.out.size; omega⟩
        have := sees_other (sees_other s5 w.heap.size hne 0 (.int .i64 n)) w.heap.size hne 1 (.slice a5 R.length c5)
        simpa using this)
      clear hz3 hz5 s5 b5
      go_wp2
      exact zone_ret hfin.out hout.out _ _ 2 rfl rfl rfl
end Go.Proofs.YtimgocfkogebmaaGreatDoor
namespace Go.Proofs.YtimgocfkogebmaaGreatDoor
open Go.RowKit
set_option linter.unusedVariables false
set_option linter.unusedSimpArgs false
def checkB (n : Int) (l : List Int) : Bool := mayB n && (decide (l = []) || decide (l.length = sz n.toNat) && decide (l = closedL n.toNat l))
def chk (n : Int) (l : List Int) : Int := if checkB n l = true then 0 else 80
theorem chk_or (n : Int) (l : List Int) : (checkB n l = true ∧ chk n l = 0) ∨ (checkB n l = false ∧ chk n l = 80) := by
  unfold chk
  cases h : checkB n l
  · right; simp
  · left; simp
theorem checkB_no {n : Int} {l : List Int} (h : mayB n = false) : checkB n l = false := by unfold checkB; rw [h, Bool.false_and]
theorem checkB_nil {n : Int} (h : mayB n = true) : checkB n [] = true := by unfold checkB; rw [h]; rfl
theorem checkB_len {n : Nat} {l : List Int} (h0 : l ≠ []) (hl : l.length ≠ sz n) : checkB n l = false := by
  unfold checkB
  rw [decide_eq_false h0, show ((n : Int)).toNat = n by omega, decide_eq_false hl]
  simp
theorem checkB_sz {n : Nat} (hn : n ≤ 8) {l : List Int} (h0 : l ≠ []) (hl : l.length = sz n) : checkB n l = decide (l = closedL n l) := by
  unfold checkB
  rw [decide_eq_false h0, show ((n : Int)).toNat = n by omega, decide_eq_true hl, mayB_nat hn]
  simp
theorem len_pos {m : Nat} {l : List Int} (h0 : l ≠ []) (h : m = l.length) : m ≠ 0 := by rw [h]; intro e; exact h0 (List.length_eq_zero_iff.1 e)
theorem dcheck_b (n : Int) (a : Option Addr) (m c : Nat) (l : List Int) (w : World) (h : SL w a m c l) (hno : mayB n = false) :
    Calls Tryz.prog 82 #[.agg #[.int .i64 n, .slice a m c]] w (Gives (.int .i64 80) w) := by
  have hmay := Lib.hid (fun W => may_any n W)
  rw [hno] at hmay
  have hB := box_below w #[.int .i64 n, .slice a m c] 51
  clear h hno
  go_enter Tryz.func82, Tryz.ntmps82
  go_wp2_with fail
  refine (hmay.out _).mono ?_
  rintro e w1 ⟨rfl, rfl⟩
  go_wp2
  go_ret
  exact ⟨rfl, hB⟩
theorem below_drew {B : Nat} {a w : World} (h : Below B a w) : Below B a w.drew := ⟨h.os, h.tape, h.output, h.size, h.block⟩
theorem box_facts (w : World) (x y : Value) : ∃ W1, W1 = w.alloc (.cells #[x, y] 51) ∧ Below w.heap.size w W1 ∧ (∀ W, Below W1.heap.size W1 W → W.cell? ⟨w.heap.size, 0, none⟩ = some x) ∧ (∀ W, Below W1.heap.size W1 W → W.cell? ⟨w.heap.size, 1, none⟩ = some y) := by
  refine ⟨_, rfl, box_below _ _ _, fun W hW => ?_, fun W hW => ?_⟩
  · have := ((Holds.new w 51 #[x, y]).below hW (by simp)).cell 0; simpa using this
  · have := ((Holds.new w 51 #[x, y]).below hW (by simp)).cell 1; simpa using this
set_option maxRecDepth 100000 in
set_option maxHeartbeats 1000000 in
theorem dcheck_nil (n : Nat) (hn : n ≤ 8) (a : Option Addr) (c : Nat) (w : World) :
    Calls Tryz.prog 82 #[.agg #[.int .i64 n, .slice a 0 c]] w (Gives (.int .i64 0) w) := by
  have hmay := Lib.hid (fun W => may_any n W)
  rw [mayB_nat hn] at hmay
  obtain ⟨W1, hW1, hB, hc0, hc1⟩ := box_facts w (.int .i64 n) (.slice a 0 c)
  have k0 := hc0 W1 (Below.refl _ _)
  have k1 := hc1 W1 (Below.refl _ _)
  have hW1' := Lib.hid hW1
  have hB' := Lib.hid hB
  clear hW1 hB
  go_enter Tryz.func82, Tryz.ntmps82
  go_wp2_with fail
  rw [← hW1'.out]
  refine (hmay.out _).mono ?_
  rintro e w1 ⟨rfl, rfl⟩
  clear hW1'
  go_wp2
  generalize w.heap.size = g at k0 k1 hc0 hc1 ⊢
  refine wp_drawn (by kernel_rfl) (fun hHeld => ?_)
  refine wpAnyH_take (i := 0) (oi := { dst := some 7, op := Go.Op.fieldAddr 51 (Go.Operand.tmp 1) 1, type := 0, pos := "dbm.go:97", after := #[], guard := none }) (v := ?v1) rfl (by kernel_rfl) (by kernel_rfl) (by kernel_rfl) (fun _ _ _ h => h) (Or.inl ⟨by kernel_rfl, ?h1⟩) (by assumption) ?r1
  case h1 => (intro w hSw; (try dsimp only at hSw); go_simp; try with_reducible rfl)
  try simp only [Act.put, List.setIfInBounds_toArray, List.set_cons_zero, List.set_cons_succ]
  refine wpAnyH_take (i := 1) (oi := { dst := some 8, op := Go.Op.load 49 (Go.Operand.tmp 7), type := 49, pos := "dbm.go:97", after := #[{ on := 0, ground := Go.Ground.data }], guard := none }) (v := ?v2) rfl (by kernel_rfl) (by kernel_rfl) (by kernel_rfl) (fun _ _ _ h => h) (Or.inl ⟨by kernel_rfl, ?h2⟩) (by assumption) ?r2
  case h2 => (intro w hSw; (try dsimp only at hSw); go_simp; try with_reducible rfl)
  try simp only [Act.put, List.setIfInBounds_toArray, List.set_cons_zero, List.set_cons_succ]
  refine wpAnyH_take (i := 2) (oi := { dst := some 9, op := Go.Op.call { callee := Go.Callee.builtin Go.Builtin.len, args := #[Go.Operand.tmp 8], argTypes := #[49] }, type := 3, pos := "dbm.go:97", after := #[{ on := 1, ground := Go.Ground.data }], guard := none }) (v := ?v3) rfl (by kernel_rfl) (by kernel_rfl) (by kernel_rfl) (fun _ _ _ h => h) (Or.inl ⟨by kernel_rfl, ?h3⟩) (by assumption) ?r3
  case h3 => (intro w hSw; (try dsimp only at hSw); go_simp; try with_reducible rfl)
  try simp only [Act.put, List.setIfInBounds_toArray, List.set_cons_zero, List.set_cons_succ]
  refine wpAnyH_take (i := 3) (oi := { dst := some 10, op := Go.Op.binOp Go.BinOp.neq 3 (Go.Operand.tmp 9) (Go.Operand.const (Go.Value.int Go.IntKind.i64 0)) 3, type := 4, pos := "dbm.go:97", after := #[{ on := 2, ground := Go.Ground.data }], guard := none }) (v := ?v4) rfl (by kernel_rfl) (by kernel_rfl) (by kernel_rfl) (fun _ _ _ h => h) (Or.inl ⟨by kernel_rfl, ?h4⟩) (by assumption) ?r4
  case h4 => (intro w hSw; (try dsimp only at hSw); go_simp; try with_reducible rfl)
  try simp only [Act.put, List.setIfInBounds_toArray, List.set_cons_zero, List.set_cons_succ]
  refine wpAnyH_take (i := 4) (oi := { dst := some 11, op := Go.Op.move (Go.Operand.tmp 10), type := 4, pos := "dbm.go:97", after := #[{ on := 3, ground := Go.Ground.data }], guard := none }) (v := ?v5) rfl (by kernel_rfl) (by kernel_rfl) (by kernel_rfl) (fun _ _ _ h => h) (Or.inl ⟨by kernel_rfl, ?h5⟩) (by assumption) ?r5
  case h5 => (intro w hSw; (try dsimp only at hSw); go_simp; try with_reducible rfl)
  try simp only [Act.put, List.setIfInBounds_toArray, List.set_cons_zero, List.set_cons_succ]
  refine wpAnyH_take (i := 5) (oi := { dst := some 12, op := Go.Op.fieldAddr 51 (Go.Operand.tmp 1) 1, type := 0, pos := "dbm.go:97", after := #[{ on := 4, ground := Go.Ground.guard }], guard := some (4, true) }) (v := undef) rfl (by kernel_rfl) (by kernel_rfl) (by kernel_rfl) (fun _ _ _ h => h) (Or.inr ⟨by kernel_rfl, rfl⟩) (by assumption) ?_
  try simp only [Act.put, List.setIfInBounds_toArray, List.set_cons_zero, List.set_cons_succ]
  refine wpAnyH_take (i := 6) (oi := { dst := some 13, op := Go.Op.load 49 (Go.Operand.tmp 12), type := 49, pos := "dbm.go:97", after := #[{ on := 5, ground := Go.Ground.data }, { on := 4, ground := Go.Ground.guard }], guard := some (4, true) }) (v := undef) rfl (by kernel_rfl) (by kernel_rfl) (by kernel_rfl) (fun _ _ _ h => h) (Or.inr ⟨by kernel_rfl, rfl⟩) (by assumption) ?_
  try simp only [Act.put, List.setIfInBounds_toArray, List.set_cons_zero, List.set_cons_succ]
  refine wpAnyH_take (i := 7) (oi := { dst := some 14, op := Go.Op.call { callee := Go.Callee.builtin Go.Builtin.len, args := #[Go.Operand.tmp 13], argTypes := #[49] }, type := 3, pos := "dbm.go:97", after := #[{ on := 6, ground := Go.Ground.data }, { on := 4, ground := Go.Ground.guard }], guard := some (4, true) }) (v := undef) rfl (by kernel_rfl) (by kernel_rfl) (by kernel_rfl) (fun _ _ _ h => h) (Or.inr ⟨by kernel_rfl, rfl⟩) (by assumption) ?_
  try simp only [Act.put, List.setIfInBounds_toArray, List.set_cons_zero, List.set_cons_succ]
  refine wpAnyH_take (i := 8) (oi := { dst := some 15, op := Go.Op.fieldAddr 51 (Go.Operand.tmp 1) 0, type := 0, pos := "dbm.go:97", after := #[{ on := 4, ground := Go.Ground.guard }], guard := some (4, true) }) (v := undef) rfl (by kernel_rfl) (by kernel_rfl) (by kernel_rfl) (fun _ _ _ h => h) (Or.inr ⟨by kernel_rfl, rfl⟩) (by assumption) ?_
  try simp only [Act.put, List.setIfInBounds_toArray, List.set_cons_zero, List.set_cons_succ]
  refine wpAnyH_take (i := 9) (oi := { dst := some 16, op := Go.Op.load 3 (Go.Operand.tmp 15), type := 3, pos := "dbm.go:97", after := #[{ on := 8, ground := Go.Ground.data }, { on := 4, ground := Go.Ground.guard }], guard := some (4, true) }) (v := undef) rfl (by kernel_rfl) (by kernel_rfl) (by kernel_rfl) (fun _ _ _ h => h) (Or.inr ⟨by kernel_rfl, rfl⟩) (by assumption) ?_
  try simp only [Act.put, List.setIfInBounds_toArray, List.set_cons_zero, List.set_cons_succ]
  refine wpAnyH_take (i := 10) (oi := { dst := some 17, op := Go.Op.call { callee := Go.Callee.value (Go.Operand.func 102), args := #[Go.Operand.tmp 16], argTypes := #[3] }, type := 3, pos := "dbm.go:97", after := #[{ on := 9, ground := Go.Ground.data }, { on := 4, ground := Go.Ground.chain }, { on := 4, ground := Go.Ground.guard }], guard := some (4, true) }) (v := undef) rfl (by kernel_rfl) (by kernel_rfl) (by kernel_rfl) (fun _ _ _ h => h) (Or.inr ⟨by kernel_rfl, rfl⟩) (by assumption) ?_
  try simp only [Act.put, List.setIfInBounds_toArray, List.set_cons_zero, List.set_cons_succ]
  refine wpAnyH_take (i := 11) (oi := { dst := some 18, op := Go.Op.binOp Go.BinOp.neq 3 (Go.Operand.tmp 14) (Go.Operand.tmp 17) 3, type := 4, pos := "dbm.go:97", after := #[{ on := 7, ground := Go.Ground.data }, { on := 10, ground := Go.Ground.data }, { on := 4, ground := Go.Ground.guard }], guard := some (4, true) }) (v := undef) rfl (by kernel_rfl) (by kernel_rfl) (by kernel_rfl) (fun _ _ _ h => h) (Or.inr ⟨by kernel_rfl, rfl⟩) (by assumption) ?_
  try simp only [Act.put, List.setIfInBounds_toArray, List.set_cons_zero, List.set_cons_succ]
  refine wpAnyH_take (i := 12) (oi := { dst := some 19, op := Go.Op.move (Go.Operand.tmp 18), type := 4, pos := "dbm.go:97", after := #[{ on := 11, ground := Go.Ground.data }, { on := 10, ground := Go.Ground.chain }, { on := 4, ground := Go.Ground.guard }], guard := some (4, true) }) (v := undef) rfl (by kernel_rfl) (by kernel_rfl) (by kernel_rfl) (fun _ _ _ h => h) (Or.inr ⟨by kernel_rfl, rfl⟩) (by assumption) ?_
  try simp only [Act.put, List.setIfInBounds_toArray, List.set_cons_zero, List.set_cons_succ]
  refine wpAnyH_take (i := 13) (oi := { dst := some 20, op := Go.Op.fieldAddr 51 (Go.Operand.tmp 1) 1, type := 0, pos := "dbm.go:97", after := #[{ on := 12, ground := Go.Ground.guard }], guard := some (12, false) }) (v := undef) rfl (by kernel_rfl) (by kernel_rfl) (by kernel_rfl) (fun _ _ _ h => h) (Or.inr ⟨by kernel_rfl, rfl⟩) (by assumption) ?_
  try simp only [Act.put, List.setIfInBounds_toArray, List.set_cons_zero, List.set_cons_succ]
  refine wpAnyH_take (i := 14) (oi := { dst := some 21, op := Go.Op.load 49 (Go.Operand.tmp 20), type := 49, pos := "dbm.go:97", after := #[{ on := 13, ground := Go.Ground.data }, { on := 12, ground := Go.Ground.guard }], guard := some (12, false) }) (v := undef) rfl (by kernel_rfl) (by kernel_rfl) (by kernel_rfl) (fun _ _ _ h => h) (Or.inr ⟨by kernel_rfl, rfl⟩) (by assumption) ?_
  try simp only [Act.put, List.setIfInBounds_toArray, List.set_cons_zero, List.set_cons_succ]
  refine wpAnyH_take (i := 15) (oi := { dst := some 22, op := Go.Op.fieldAddr 51 (Go.Operand.tmp 1) 0, type := 0, pos := "dbm.go:97", after := #[{ on := 12, ground := Go.Ground.guard }], guard := some (12, false) }) (v := undef) rfl (by kernel_rfl) (by kernel_rfl) (by kernel_rfl) (fun _ _ _ h => h) (Or.inr ⟨by kernel_rfl, rfl⟩) (by assumption) ?_
  try simp only [Act.put, List.setIfInBounds_toArray, List.set_cons_zero, List.set_cons_succ]
  refine wpAnyH_take (i := 16) (oi := { dst := some 23, op := Go.Op.load 3 (Go.Operand.tmp 22), type := 3, pos := "dbm.go:97", after := #[{ on := 15, ground := Go.Ground.data }, { on := 12, ground := Go.Ground.guard }], guard := some (12, false) }) (v := undef) rfl (by kernel_rfl) (by kernel_rfl) (by kernel_rfl) (fun _ _ _ h => h) (Or.inr ⟨by kernel_rfl, rfl⟩) (by assumption) ?_
  try simp only [Act.put, List.setIfInBounds_toArray, List.set_cons_zero, List.set_cons_succ]
  refine wpAnyH_take (i := 17) (oi := { dst := some 24, op := Go.Op.fieldAddr 51 (Go.Operand.tmp 1) 1, type := 0, pos := "dbm.go:97", after := #[{ on := 12, ground := Go.Ground.guard }], guard := some (12, false) }) (v := undef) rfl (by kernel_rfl) (by kernel_rfl) (by kernel_rfl) (fun _ _ _ h => h) (Or.inr ⟨by kernel_rfl, rfl⟩) (by assumption) ?_
  try simp only [Act.put, List.setIfInBounds_toArray, List.set_cons_zero, List.set_cons_succ]
  refine wpAnyH_take (i := 18) (oi := { dst := some 25, op := Go.Op.load 49 (Go.Operand.tmp 24), type := 49, pos := "dbm.go:97", after := #[{ on := 17, ground := Go.Ground.data }, { on := 12, ground := Go.Ground.guard }], guard := some (12, false) }) (v := undef) rfl (by kernel_rfl) (by kernel_rfl) (by kernel_rfl) (fun _ _ _ h => h) (Or.inr ⟨by kernel_rfl, rfl⟩) (by assumption) ?_
  try simp only [Act.put, List.setIfInBounds_toArray, List.set_cons_zero, List.set_cons_succ]
  refine wpAnyH_take (i := 19) (oi := { dst := some 26, op := Go.Op.call { callee := Go.Callee.value (Go.Operand.func 132), args := #[Go.Operand.tmp 23, Go.Operand.tmp 25], argTypes := #[3, 49] }, type := 49, pos := "dbm.go:97", after := #[{ on := 16, ground := Go.Ground.data }, { on := 18, ground := Go.Ground.data }, { on := 12, ground := Go.Ground.chain }, { on := 12, ground := Go.Ground.guard }], guard := some (12, false) }) (v := undef) rfl (by kernel_rfl) (by kernel_rfl) (by kernel_rfl) (fun _ _ _ h => h) (Or.inr ⟨by kernel_rfl, rfl⟩) (by assumption) ?_
  try simp only [Act.put, List.setIfInBounds_toArray, List.set_cons_zero, List.set_cons_succ]
  refine wpAnyH_take (i := 20) (oi := { dst := some 27, op := Go.Op.call { callee := Go.Callee.value (Go.Operand.func 131), args := #[Go.Operand.tmp 21, Go.Operand.tmp 26], argTypes := #[49, 49] }, type := 4, pos := "dbm.go:97", after := #[{ on := 14, ground := Go.Ground.data }, { on := 19, ground := Go.Ground.data }, { on := 19, ground := Go.Ground.chain }, { on := 12, ground := Go.Ground.guard }], guard := some (12, false) }) (v := undef) rfl (by kernel_rfl) (by kernel_rfl) (by kernel_rfl) (fun _ _ _ h => h) (Or.inr ⟨by kernel_rfl, rfl⟩) (by assumption) ?_
  try simp only [Act.put, List.setIfInBounds_toArray, List.set_cons_zero, List.set_cons_succ]
  refine wpAnyH_take (i := 21) (oi := { dst := some 28, op := Go.Op.unOp Go.UnOp.not 4 (Go.Operand.tmp 27), type := 4, pos := "dbm.go:97", after := #[{ on := 20, ground := Go.Ground.data }, { on := 12, ground := Go.Ground.guard }], guard := some (12, false) }) (v := undef) rfl (by kernel_rfl) (by kernel_rfl) (by kernel_rfl) (fun _ _ _ h => h) (Or.inr ⟨by kernel_rfl, rfl⟩) (by assumption) ?_
  try simp only [Act.put, List.setIfInBounds_toArray, List.set_cons_zero, List.set_cons_succ]
  refine wpAnyH_take (i := 22) (oi := { dst := some 29, op := Go.Op.pick (Go.Operand.tmp 19) (Go.Operand.const (Go.Value.bool true)) (Go.Operand.tmp 28), type := 4, pos := "dbm.go:97", after := #[{ on := 12, ground := Go.Ground.data }, { on := 21, ground := Go.Ground.data }, { on := 4, ground := Go.Ground.guard }], guard := some (4, true) }) (v := undef) rfl (by kernel_rfl) (by kernel_rfl) (by kernel_rfl) (fun _ _ _ h => h) (Or.inr ⟨by kernel_rfl, rfl⟩) (by assumption) ?_
  try simp only [Act.put, List.setIfInBounds_toArray, List.set_cons_zero, List.set_cons_succ]
  refine wpAnyH_take (i := 23) (oi := { dst := some 30, op := Go.Op.pick (Go.Operand.tmp 11) (Go.Operand.tmp 29) (Go.Operand.const (Go.Value.bool false)), type := 4, pos := "dbm.go:97", after := #[{ on := 4, ground := Go.Ground.data }, { on := 22, ground := Go.Ground.data }], guard := none }) (v := ?v24) rfl (by kernel_rfl) (by kernel_rfl) (by kernel_rfl) (fun _ _ _ h => h) (Or.inl ⟨by kernel_rfl, ?h24⟩) (by assumption) ?r24
  case h24 => (intro w hSw; (try dsimp only at hSw); go_simp; try with_reducible rfl)
  try simp only [Act.put, List.setIfInBounds_toArray, List.set_cons_zero, List.set_cons_succ]
  refine wpAnyH_done (by kernel_rfl) ?_ _
  go_wp2
  go_ret
  exact ⟨rfl, below_drew hB'.out⟩
set_option maxRecDepth 100000 in
set_option maxHeartbeats 1000000 in
theorem dcheck_len (n : Nat) (hn : n ≤ 8) (a : Option Addr) (m c : Nat) (h0 : m ≠ 0) (hm : m ≠ sz n) (hmx : m ≤ 9223372036854775807) (w : World) :
    Calls Tryz.prog 82 #[.agg #[.int .i64 n, .slice a m c]] w (Gives (.int .i64 80) w) := by
  have hmay := Lib.hid (fun W => may_any n W)
  rw [mayB_nat hn] at hmay
  have hsize := Lib.hid (fun W => zsize_any n hn W)
  have hs81 := sz_le hn
  generalize sz n = s at *
  obtain ⟨W1, hW1, hB, hc0, hc1⟩ := box_facts w (.int .i64 n) (.slice a m c)
  have k0 := hc0 W1 (Below.refl _ _)
  have k1 := hc1 W1 (Below.refl _ _)
  have hW1' := Lib.hid hW1
  have hB' := Lib.hid hB
  have e0 : ((m : Int) != 0) = true := by simp; omega
  have e1 : ((m : Int) != (s : Int)) = true := by simp; omega
  have e2 : ¬ (m : Int) = 0 := by omega
  have e3 : ¬ (m : Int) = (s : Int) := by omega
  clear hW1 hB
  go_enter Tryz.func82, Tryz.ntmps82
  go_wp2_with fail
  rw [← hW1'.out]
  refine (hmay.out _).mono ?_
  rintro e w1 ⟨rfl, rfl⟩
  clear hW1'
  go_wp2
  generalize w.heap.size = g at k0 k1 hc0 hc1 ⊢
  refine wp_drawn (by kernel_rfl) (fun hHeld => ?_)
  refine wpAnyH_take (i := 0) (oi := { dst := some 7, op := Go.Op.fieldAddr 51 (Go.Operand.tmp 1) 1, type := 0, pos := "dbm.go:97", after := #[], guard := none }) (v := ?v25) rfl (by kernel_rfl) (by kernel_rfl) (by kernel_rfl) (fun _ _ _ h => h) (Or.inl ⟨by kernel_rfl, ?h25⟩) (by assumption) ?r25
  case h25 => (intro w hSw; (try dsimp only at hSw); go_simp; try with_reducible rfl)
  try simp only [Act.put, List.setIfInBounds_toArray, List.set_cons_zero, List.set_cons_succ]
  refine wpAnyH_take (i := 1) (oi := { dst := some 8, op := Go.Op.load 49 (Go.Operand.tmp 7), type := 49, pos := "dbm.go:97", after := #[{ on := 0, ground := Go.Ground.data }], guard := none }) (v := ?v26) rfl (by kernel_rfl) (by kernel_rfl) (by kernel_rfl) (fun _ _ _ h => h) (Or.inl ⟨by kernel_rfl, ?h26⟩) (by assumption) ?r26
  case h26 => (intro w hSw; (try dsimp only at hSw); go_simp; try with_reducible rfl)
  try simp only [Act.put, List.setIfInBounds_toArray, List.set_cons_zero, List.set_cons_succ]
  refine wpAnyH_take (i := 2) (oi := { dst := some 9, op := Go.Op.call { callee := Go.Callee.builtin Go.Builtin.len, args := #[Go.Operand.tmp 8], argTypes := #[49] }, type := 3, pos := "dbm.go:97", after := #[{ on := 1, ground := Go.Ground.data }], guard := none }) (v := ?v27) rfl (by kernel_rfl) (by kernel_rfl) (by kernel_rfl) (fun _ _ _ h => h) (Or.inl ⟨by kernel_rfl, ?h27⟩) (by assumption) ?r27
  case h27 => (intro w hSw; (try dsimp only at hSw); go_simp; try with_reducible rfl)
  try simp only [Act.put, List.setIfInBounds_toArray, List.set_cons_zero, List.set_cons_succ]
  refine wpAnyH_take (i := 3) (oi := { dst := some 10, op := Go.Op.binOp Go.BinOp.neq 3 (Go.Operand.tmp 9) (Go.Operand.const (Go.Value.int Go.IntKind.i64 0)) 3, type := 4, pos := "dbm.go:97", after := #[{ on := 2, ground := Go.Ground.data }], guard := none }) (v := ?v28) rfl (by kernel_rfl) (by kernel_rfl) (by kernel_rfl) (fun _ _ _ h => h) (Or.inl ⟨by kernel_rfl, ?h28⟩) (by assumption) ?r28
  case h28 => (intro w hSw; (try dsimp only at hSw); go_simp; try with_reducible rfl)
  try simp only [Act.put, List.setIfInBounds_toArray, List.set_cons_zero, List.set_cons_succ]
  refine wpAnyH_take (i := 4) (oi := { dst := some 11, op := Go.Op.move (Go.Operand.tmp 10), type := 4, pos := "dbm.go:97", after := #[{ on := 3, ground := Go.Ground.data }], guard := none }) (v := ?v29) rfl (by kernel_rfl) (by kernel_rfl) (by kernel_rfl) (fun _ _ _ h => h) (Or.inl ⟨by kernel_rfl, ?h29⟩) (by assumption) ?r29
  case h29 => (intro w hSw; (try dsimp only at hSw); go_simp; try with_reducible rfl)
  try simp only [Act.put, List.setIfInBounds_toArray, List.set_cons_zero, List.set_cons_succ]
  refine wpAnyH_take (i := 5) (oi := { dst := some 12, op := Go.Op.fieldAddr 51 (Go.Operand.tmp 1) 1, type := 0, pos := "dbm.go:97", after := #[{ on := 4, ground := Go.Ground.guard }], guard := some (4, true) }) (v := ?v30) rfl (by kernel_rfl) (by kernel_rfl) (by kernel_rfl) (fun _ _ _ h => h) (Or.inl ⟨by kernel_rfl, ?h30⟩) (by assumption) ?r30
  case h30 => (intro w hSw; (try dsimp only at hSw); go_simp; try with_reducible rfl)
  try simp only [Act.put, List.setIfInBounds_toArray, List.set_cons_zero, List.set_cons_succ]
  refine wpAnyH_take (i := 6) (oi := { dst := some 13, op := Go.Op.load 49 (Go.Operand.tmp 12), type := 49, pos := "dbm.go:97", after := #[{ on := 5, ground := Go.Ground.data }, { on := 4, ground := Go.Ground.guard }], guard := some (4, true) }) (v := ?v31) rfl (by kernel_rfl) (by kernel_rfl) (by kernel_rfl) (fun _ _ _ h => h) (Or.inl ⟨by kernel_rfl, ?h31⟩) (by assumption) ?r31
  case h31 => (intro w hSw; (try dsimp only at hSw); go_simp; try with_reducible rfl)
  try simp only [Act.put, List.setIfInBounds_toArray, List.set_cons_zero, List.set_cons_succ]
  refine wpAnyH_take (i := 7) (oi := { dst := some 14, op := Go.Op.call { callee := Go.Callee.builtin Go.Builtin.len, args := #[Go.Operand.tmp 13], argTypes := #[49] }, type := 3, pos := "dbm.go:97", after := #[{ on := 6, ground := Go.Ground.data }, { on := 4, ground := Go.Ground.guard }], guard := some (4, true) }) (v := ?v32) rfl (by kernel_rfl) (by kernel_rfl) (by kernel_rfl) (fun _ _ _ h => h) (Or.inl ⟨by kernel_rfl, ?h32⟩) (by assumption) ?r32
  case h32 => (intro w hSw; (try dsimp only at hSw); go_simp; try with_reducible rfl)
  try simp only [Act.put, List.setIfInBounds_toArray, List.set_cons_zero, List.set_cons_succ]
  refine wpAnyH_take (i := 8) (oi := { dst := some 15, op := Go.Op.fieldAddr 51 (Go.Operand.tmp 1) 0, type := 0, pos := "dbm.go:97", after := #[{ on := 4, ground := Go.Ground.guard }], guard := some (4, true) }) (v := ?v33) rfl (by kernel_rfl) (by kernel_rfl) (by kernel_rfl) (fun _ _ _ h => h) (Or.inl ⟨by kernel_rfl, ?h33⟩) (by assumption) ?r33
  case h33 => (intro w hSw; (try dsimp only at hSw); go_simp; try with_reducible rfl)
  try simp only [Act.put, List.setIfInBounds_toArray, List.set_cons_zero, List.set_cons_succ]
  refine wpAnyH_take (i := 9) (oi := { dst := some 16, op := Go.Op.load 3 (Go.Operand.tmp 15), type := 3, pos := "dbm.go:97", after := #[{ on := 8, ground := Go.Ground.data }, { on := 4, ground := Go.Ground.guard }], guard := some (4, true) }) (v := ?v34) rfl (by kernel_rfl) (by kernel_rfl) (by kernel_rfl) (fun _ _ _ h => h) (Or.inl ⟨by kernel_rfl, ?h34⟩) (by assumption) ?r34
  case h34 => (intro w hSw; (try dsimp only at hSw); go_simp; try with_reducible rfl)
  try simp only [Act.put, List.setIfInBounds_toArray, List.set_cons_zero, List.set_cons_succ]
  refine wpAnyH_ready (rs := [10]) (by kernel_rfl) (by simp) ?_
  refine AllReadyH.cons (o := { dst := some 17, op := Go.Op.call { callee := Go.Callee.value (Go.Operand.func 102), args := #[Go.Operand.tmp 16], argTypes := #[3] }, type := 3, pos := "dbm.go:97", after := #[{ on := 9, ground := Go.Ground.data }, { on := 4, ground := Go.Ground.chain }, { on := 4, ground := Go.Ground.guard }], guard := some (4, true) }) rfl (fun K hK => ?_) AllReadyH.nil
  go_simp
  refine (hsize.out _).mono ?_
  rintro e w1 ⟨rfl, rfl⟩
  go_simp
  refine hK.out _ _ (hHeld) (fun hHeld => ?_)
  clear hK K
  try simp only [Act.put, List.setIfInBounds_toArray, List.set_cons_zero, List.set_cons_succ]
  refine wpAnyH_take (i := 11) (oi := { dst := some 18, op := Go.Op.binOp Go.BinOp.neq 3 (Go.Operand.tmp 14) (Go.Operand.tmp 17) 3, type := 4, pos := "dbm.go:97", after := #[{ on := 7, ground := Go.Ground.data }, { on := 10, ground := Go.Ground.data }, { on := 4, ground := Go.Ground.guard }], guard := some (4, true) }) (v := ?v35) rfl (by kernel_rfl) (by kernel_rfl) (by kernel_rfl) (fun _ _ _ h => h) (Or.inl ⟨by kernel_rfl, ?h35⟩) (by assumption) ?r35
  case h35 => (intro w hSw; (try dsimp only at hSw); go_simp; try with_reducible rfl)
  try simp only [Act.put, List.setIfInBounds_toArray, List.set_cons_zero, List.set_cons_succ]
  refine wpAnyH_take (i := 12) (oi := { dst := some 19, op := Go.Op.move (Go.Operand.tmp 18), type := 4, pos := "dbm.go:97", after := #[{ on := 11, ground := Go.Ground.data }, { on := 10, ground := Go.Ground.chain }, { on := 4, ground := Go.Ground.guard }], guard := some (4, true) }) (v := ?v36) rfl (by kernel_rfl) (by kernel_rfl) (by kernel_rfl) (fun _ _ _ h => h) (Or.inl ⟨by kernel_rfl, ?h36⟩) (by assumption) ?r36
  case h36 => (intro w hSw; (try dsimp only at hSw); go_simp; try with_reducible rfl)
  try simp only [Act.put, List.setIfInBounds_toArray, List.set_cons_zero, List.set_cons_succ]
  refine wpAnyH_take (i := 13) (oi := { dst := some 20, op := Go.Op.fieldAddr 51 (Go.Operand.tmp 1) 1, type := 0, pos := "dbm.go:97", after := #[{ on := 12, ground := Go.Ground.guard }], guard := some (12, false) }) (v := undef) rfl (by kernel_rfl) (by kernel_rfl) (by kernel_rfl) (fun _ _ _ h => h) (Or.inr ⟨by kernel_rfl, rfl⟩) (by assumption) ?_
  try simp only [Act.put, List.setIfInBounds_toArray, List.set_cons_zero, List.set_cons_succ]
  refine wpAnyH_take (i := 14) (oi := { dst := some 21, op := Go.Op.load 49 (Go.Operand.tmp 20), type := 49, pos := "dbm.go:97", after := #[{ on := 13, ground := Go.Ground.data }, { on := 12, ground := Go.Ground.guard }], guard := some (12, false) }) (v := undef) rfl (by kernel_rfl) (by kernel_rfl) (by kernel_rfl) (fun _ _ _ h => h) (Or.inr ⟨by kernel_rfl, rfl⟩) (by assumption) ?_
  try simp only [Act.put, List.setIfInBounds_toArray, List.set_cons_zero, List.set_cons_succ]
  refine wpAnyH_take (i := 15) (oi := { dst := some 22, op := Go.Op.fieldAddr 51 (Go.Operand.tmp 1) 0, type := 0, pos := "dbm.go:97", after := #[{ on := 12, ground := Go.Ground.guard }], guard := some (12, false) }) (v := undef) rfl (by kernel_rfl) (by kernel_rfl) (by kernel_rfl) (fun _ _ _ h => h) (Or.inr ⟨by kernel_rfl, rfl⟩) (by assumption) ?_
  try simp only [Act.put, List.setIfInBounds_toArray, List.set_cons_zero, List.set_cons_succ]
  refine wpAnyH_take (i := 16) (oi := { dst := some 23, op := Go.Op.load 3 (Go.Operand.tmp 22), type := 3, pos := "dbm.go:97", after := #[{ on := 15, ground := Go.Ground.data }, { on := 12, ground := Go.Ground.guard }], guard := some (12, false) }) (v := undef) rfl (by kernel_rfl) (by kernel_rfl) (by kernel_rfl) (fun _ _ _ h => h) (Or.inr ⟨by kernel_rfl, rfl⟩) (by assumption) ?_
  try simp only [Act.put, List.setIfInBounds_toArray, List.set_cons_zero, List.set_cons_succ]
  refine wpAnyH_take (i := 17) (oi := { dst := some 24, op := Go.Op.fieldAddr 51 (Go.Operand.tmp 1) 1, type := 0, pos := "dbm.go:97", after := #[{ on := 12, ground := Go.Ground.guard }], guard := some (12, false) }) (v := undef) rfl (by kernel_rfl) (by kernel_rfl) (by kernel_rfl) (fun _ _ _ h => h) (Or.inr ⟨by kernel_rfl, rfl⟩) (by assumption) ?_
  try simp only [Act.put, List.setIfInBounds_toArray, List.set_cons_zero, List.set_cons_succ]
  refine wpAnyH_take (i := 18) (oi := { dst := some 25, op := Go.Op.load 49 (Go.Operand.tmp 24), type := 49, pos := "dbm.go:97", after := #[{ on := 17, ground := Go.Ground.data }, { on := 12, ground := Go.Ground.guard }], guard := some (12, false) }) (v := undef) rfl (by kernel_rfl) (by kernel_rfl) (by kernel_rfl) (fun _ _ _ h => h) (Or.inr ⟨by kernel_rfl, rfl⟩) (by assumption) ?_
  try simp only [Act.put, List.setIfInBounds_toArray, List.set_cons_zero, List.set_cons_succ]
  refine wpAnyH_take (i := 19) (oi := { dst := some 26, op := Go.Op.call { callee := Go.Callee.value (Go.Operand.func 132), args := #[Go.Operand.tmp 23, Go.Operand.tmp 25], argTypes := #[3, 49] }, type := 49, pos := "dbm.go:97", after := #[{ on := 16, ground := Go.Ground.data }, { on := 18, ground := Go.Ground.data }, { on := 12, ground := Go.Ground.chain }, { on := 12, ground := Go.Ground.guard }], guard := some (12, false) }) (v := undef) rfl (by kernel_rfl) (by kernel_rfl) (by kernel_rfl) (fun _ _ _ h => h) (Or.inr ⟨by kernel_rfl, rfl⟩) (by assumption) ?_
  try simp only [Act.put, List.setIfInBounds_toArray, List.set_cons_zero, List.set_cons_succ]
  refine wpAnyH_take (i := 20) (oi := { dst := some 27, op := Go.Op.call { callee := Go.Callee.value (Go.Operand.func 131), args := #[Go.Operand.tmp 21, Go.Operand.tmp 26], argTypes := #[49, 49] }, type := 4, pos := "dbm.go:97", after := #[{ on := 14, ground := Go.Ground.data }, { on := 19, ground := Go.Ground.data }, { on := 19, ground := Go.Ground.chain }, { on := 12, ground := Go.Ground.guard }], guard := some (12, false) }) (v := undef) rfl (by kernel_rfl) (by kernel_rfl) (by kernel_rfl) (fun _ _ _ h => h) (Or.inr ⟨by kernel_rfl, rfl⟩) (by assumption) ?_
  try simp only [Act.put, List.setIfInBounds_toArray, List.set_cons_zero, List.set_cons_succ]
  refine wpAnyH_take (i := 21) (oi := { dst := some 28, op := Go.Op.unOp Go.UnOp.not 4 (Go.Operand.tmp 27), type := 4, pos := "dbm.go:97", after := #[{ on := 20, ground := Go.Ground.data }, { on := 12, ground := Go.Ground.guard }], guard := some (12, false) }) (v := undef) rfl (by kernel_rfl) (by kernel_rfl) (by kernel_rfl) (fun _ _ _ h => h) (Or.inr ⟨by kernel_rfl, rfl⟩) (by assumption) ?_
  try simp only [Act.put, List.setIfInBounds_toArray, List.set_cons_zero, List.set_cons_succ]
  refine wpAnyH_take (i := 22) (oi := { dst := some 29, op := Go.Op.pick (Go.Operand.tmp 19) (Go.Operand.const (Go.Value.bool true)) (Go.Operand.tmp 28), type := 4, pos := "dbm.go:97", after := #[{ on := 12, ground := Go.Ground.data }, { on := 21, ground := Go.Ground.data }, { on := 4, ground := Go.Ground.guard }], guard := some (4, true) }) (v := ?v46) rfl (by kernel_rfl) (by kernel_rfl) (by kernel_rfl) (fun _ _ _ h => h) (Or.inl ⟨by kernel_rfl, ?h46⟩) (by assumption) ?r46
  case h46 => (intro w hSw; (try dsimp only at hSw); go_simp; try with_reducible rfl)
  try simp only [Act.put, List.setIfInBounds_toArray, List.set_cons_zero, List.set_cons_succ]
  refine wpAnyH_take (i := 23) (oi := { dst := some 30, op := Go.Op.pick (Go.Operand.tmp 11) (Go.Operand.tmp 29) (Go.Operand.const (Go.Value.bool false)), type := 4, pos := "dbm.go:97", after := #[{ on := 4, ground := Go.Ground.data }, { on := 22, ground := Go.Ground.data }], guard := none }) (v := ?v47) rfl (by kernel_rfl) (by kernel_rfl) (by kernel_rfl) (fun _ _ _ h => h) (Or.inl ⟨by kernel_rfl, ?h47⟩) (by assumption) ?r47
  case h47 => (intro w hSw; (try dsimp only at hSw); go_simp; try with_reducible rfl)
  try simp only [Act.put, List.setIfInBounds_toArray, List.set_cons_zero, List.set_cons_succ]
  refine wpAnyH_done (by kernel_rfl) ?_ _
  go_wp2
  go_ret
  exact ⟨rfl, below_drew hB'.out⟩
set_option maxRecDepth 100000 in
set_option maxHeartbeats 1000000 in
theorem dcheck_sz (n : Nat) (hn : n ≤ 8) (a : Option Addr) (m c : Nat) (l : List Int) (hm : m = sz n) (w : World) (h : SL w a m c l) :
    Calls Tryz.prog 82 #[.agg #[.int .i64 n, .slice a m c]] w (Gives (.int .i64 (if decide (l = closedL n l) = true then 0 else 80)) w) := by
  have hmay := Lib.hid (fun W => may_any n W)
  rw [mayB_nat hn] at hmay
  have hsize := Lib.hid (fun W => zsize_any n hn W)
  rw [← hm] at hsize
  have hs81 := sz_le hn
  obtain ⟨W1, hW1, hB, hc0, hc1⟩ := box_facts w (.int .i64 n) (.slice a m c)
  have k0 := hc0 W1 (Below.refl _ _)
  have k1 := hc1 W1 (Below.refl _ _)
  have hW1' := Lib.hid hW1
  have hB' := Lib.hid hB
  have hsl := Lib.hid (h.below hB)
  have hclo := Lib.hid (fun W (hW : Below W1.heap.size W1 W) => closed_any n hn a l m c h.len hm W ((hsl.out.below hW).sees))
  have hpos := sz_pos n
  have e0 : ((m : Int) != 0) = true := by simp; omega
  have e2 : ¬ (m : Int) = 0 := by omega
  have hml := Lib.hid h.len
  have hmb : m ≤ 81 := by omega
  have hR : Hid (closedL n l = [] ∨ (closedL n l).length = sz n) := Lib.hid (by
    by_cases q : closedL n l = []
    · exact .inl q
    · exact .inr (closedL_is q).1)
  have hRl : (closedL n l).length ≤ 81 := by
    rcases hR.out with q | q
    · rw [q]; simp
    · omega
  clear hW1 hB h hm hpos hR
  generalize closedL n l = R at *
  generalize hd : decide (l = R) = d at *
  have hd' := Lib.hid hd
  clear hd
  generalize hE : (if d = true then (0 : Int) else 80) = E
  have hE' := Lib.hid hE
  clear hE
  go_enter Tryz.func82, Tryz.ntmps82
  go_wp2_with fail
  rw [← hW1'.out]
  refine (hmay.out _).mono ?_
  rintro e w1 ⟨rfl, rfl⟩
  clear hW1'
  go_wp2
  generalize w.heap.size = g at k0 k1 hc0 hc1 ⊢
  refine wp_drawn (by kernel_rfl) (fun hHeld => ?_)
  refine wpAnyH_take (i := 0) (oi := { dst := some 7, op := Go.Op.fieldAddr 51 (Go.Operand.tmp 1) 1, type := 0, pos := "dbm.go:97", after := #[], guard := none }) (v := ?v48) rfl (by kernel_rfl) (by kernel_rfl) (by kernel_rfl) (fun _ _ _ h => h) (Or.inl ⟨by kernel_rfl, ?h48⟩) (by assumption) ?r48
  case h48 => (intro w hSw; (try dsimp only at hSw); go_simp; try with_reducible rfl)
  try simp only [Act.put, List.setIfInBounds_toArray, List.set_cons_zero, List.set_cons_succ]
  refine wpAnyH_take (i := 1) (oi := { dst := some 8, op := Go.Op.load 49 (Go.Operand.tmp 7), type := 49, pos := "dbm.go:97", after := #[{ on := 0, ground := Go.Ground.data }], guard := none }) (v := ?v49) rfl (by kernel_rfl) (by kernel_rfl) (by kernel_rfl) (fun _ _ _ h => h) (Or.inl ⟨by kernel_rfl, ?h49⟩) (by assumption) ?r49
  case h49 => (intro w hSw; (try dsimp only at hSw); go_simp; try with_reducible rfl)
  try simp only [Act.put, List.setIfInBounds_toArray, List.set_cons_zero, List.set_cons_succ]
  refine wpAnyH_take (i := 2) (oi := { dst := some 9, op := Go.Op.call { callee := Go.Callee.builtin Go.Builtin.len, args := #[Go.Operand.tmp 8], argTypes := #[49] }, type := 3, pos := "dbm.go:97", after := #[{ on := 1, ground := Go.Ground.data }], guard := none }) (v := ?v50) rfl (by kernel_rfl) (by kernel_rfl) (by kernel_rfl) (fun _ _ _ h => h) (Or.inl ⟨by kernel_rfl, ?h50⟩) (by assumption) ?r50
  case h50 => (intro w hSw; (try dsimp only at hSw); go_simp; try with_reducible rfl)
  try simp only [Act.put, List.setIfInBounds_toArray, List.set_cons_zero, List.set_cons_succ]
  refine wpAnyH_take (i := 3) (oi := { dst := some 10, op := Go.Op.binOp Go.BinOp.neq 3 (Go.Operand.tmp 9) (Go.Operand.const (Go.Value.int Go.IntKind.i64 0)) 3, type := 4, pos := "dbm.go:97", after := #[{ on := 2, ground := Go.Ground.data }], guard := none }) (v := ?v51) rfl (by kernel_rfl) (by kernel_rfl) (by kernel_rfl) (fun _ _ _ h => h) (Or.inl ⟨by kernel_rfl, ?h51⟩) (by assumption) ?r51
  case h51 => (intro w hSw; (try dsimp only at hSw); go_simp; try with_reducible rfl)
  try simp only [Act.put, List.setIfInBounds_toArray, List.set_cons_zero, List.set_cons_succ]
  refine wpAnyH_take (i := 4) (oi := { dst := some 11, op := Go.Op.move (Go.Operand.tmp 10), type := 4, pos := "dbm.go:97", after := #[{ on := 3, ground := Go.Ground.data }], guard := none }) (v := ?v52) rfl (by kernel_rfl) (by kernel_rfl) (by kernel_rfl) (fun _ _ _ h => h) (Or.inl ⟨by kernel_rfl, ?h52⟩) (by assumption) ?r52
  case h52 => (intro w hSw; (try dsimp only at hSw); go_simp; try with_reducible rfl)
  try simp only [Act.put, List.setIfInBounds_toArray, List.set_cons_zero, List.set_cons_succ]
  refine wpAnyH_take (i := 5) (oi := { dst := some 12, op := Go.Op.fieldAddr 51 (Go.Operand.tmp 1) 1, type := 0, pos := "dbm.go:97", after := #[{ on := 4, ground := Go.Ground.guard }], guard := some (4, true) }) (v := ?v53) rfl (by kernel_rfl) (by kernel_rfl) (by kernel_rfl) (fun _ _ _ h => h) (Or.inl ⟨by kernel_rfl, ?h53⟩) (by assumption) ?r53
  case h53 => (intro w hSw; (try dsimp only at hSw); go_simp; try with_reducible rfl)
  try simp only [Act.put, List.setIfInBounds_toArray, List.set_cons_zero, List.set_cons_succ]
  refine wpAnyH_take (i := 6) (oi := { dst := some 13, op := Go.Op.load 49 (Go.Operand.tmp 12), type := 49, pos := "dbm.go:97", after := #[{ on := 5, ground := Go.Ground.data }, { on := 4, ground := Go.Ground.guard }], guard := some (4, true) }) (v := ?v54) rfl (by kernel_rfl) (by kernel_rfl) (by kernel_rfl) (fun _ _ _ h => h) (Or.inl ⟨by kernel_rfl, ?h54⟩) (by assumption) ?r54
  case h54 => (intro w hSw; (try dsimp only at hSw); go_simp; try with_reducible rfl)
  try simp only [Act.put, List.setIfInBounds_toArray, List.set_cons_zero, List.set_cons_succ]
  refine wpAnyH_take (i := 7) (oi := { dst := some 14, op := Go.Op.call { callee := Go.Callee.builtin Go.Builtin.len, args := #[Go.Operand.tmp 13], argTypes := #[49] }, type := 3, pos := "dbm.go:97", after := #[{ on := 6, ground := Go.Ground.data }, { on := 4, ground := Go.Ground.guard }], guard := some (4, true) }) (v := ?v55) rfl (by kernel_rfl) (by kernel_rfl) (by kernel_rfl) (fun _ _ _ h => h) (Or.inl ⟨by kernel_rfl, ?h55⟩) (by assumption) ?r55
  case h55 => (intro w hSw; (try dsimp only at hSw); go_simp; try with_reducible rfl)
  try simp only [Act.put, List.setIfInBounds_toArray, List.set_cons_zero, List.set_cons_succ]
  refine wpAnyH_take (i := 8) (oi := { dst := some 15, op := Go.Op.fieldAddr 51 (Go.Operand.tmp 1) 0, type := 0, pos := "dbm.go:97", after := #[{ on := 4, ground := Go.Ground.guard }], guard := some (4, true) }) (v := ?v56) rfl (by kernel_rfl) (by kernel_rfl) (by kernel_rfl) (fun _ _ _ h => h) (Or.inl ⟨by kernel_rfl, ?h56⟩) (by assumption) ?r56
  case h56 => (intro w hSw; (try dsimp only at hSw); go_simp; try with_reducible rfl)
  try simp only [Act.put, List.setIfInBounds_toArray, List.set_cons_zero, List.set_cons_succ]
  refine wpAnyH_take (i := 9) (oi := { dst := some 16, op := Go.Op.load 3 (Go.Operand.tmp 15), type := 3, pos := "dbm.go:97", after := #[{ on := 8, ground := Go.Ground.data }, { on := 4, ground := Go.Ground.guard }], guard := some (4, true) }) (v := ?v57) rfl (by kernel_rfl) (by kernel_rfl) (by kernel_rfl) (fun _ _ _ h => h) (Or.inl ⟨by kernel_rfl, ?h57⟩) (by assumption) ?r57
  case h57 => (intro w hSw; (try dsimp only at hSw); go_simp; try with_reducible rfl)
  try simp only [Act.put, List.setIfInBounds_toArray, List.set_cons_zero, List.set_cons_succ]
  refine wpAnyH_ready (rs := [10]) (by kernel_rfl) (by simp) ?_
  refine AllReadyH.cons (o := { dst := some 17, op := Go.Op.call { callee := Go.Callee.value (Go.Operand.func 102), args := #[Go.Operand.tmp 16], argTypes := #[3] }, type := 3, pos := "dbm.go:97", after := #[{ on := 9, ground := Go.Ground.data }, { on := 4, ground := Go.Ground.chain }, { on := 4, ground := Go.Ground.guard }], guard := some (4, true) }) rfl (fun K hK => ?_) AllReadyH.nil
  go_simp
  refine (hsize.out _).mono ?_
  rintro e w1 ⟨rfl, rfl⟩
  go_simp
  refine hK.out _ _ (hHeld) (fun hHeld => ?_)
  clear hK K
  try simp only [Act.put, List.setIfInBounds_toArray, List.set_cons_zero, List.set_cons_succ]
  refine wpAnyH_take (i := 11) (oi := { dst := some 18, op := Go.Op.binOp Go.BinOp.neq 3 (Go.Operand.tmp 14) (Go.Operand.tmp 17) 3, type := 4, pos := "dbm.go:97", after := #[{ on := 7, ground := Go.Ground.data }, { on := 10, ground := Go.Ground.data }, { on := 4, ground := Go.Ground.guard }], guard := some (4, true) }) (v := ?v58) rfl (by kernel_rfl) (by kernel_rfl) (by kernel_rfl) (fun _ _ _ h => h) (Or.inl ⟨by kernel_rfl, ?h58⟩) (by assumption) ?r58
  case h58 => (intro w hSw; (try dsimp only at hSw); go_simp; try with_reducible rfl)
  try simp only [Act.put, List.setIfInBounds_toArray, List.set_cons_zero, List.set_cons_succ]
  refine wpAnyH_take (i := 12) (oi := { dst := some 19, op := Go.Op.move (Go.Operand.tmp 18), type := 4, pos := "dbm.go:97", after := #[{ on := 11, ground := Go.Ground.data }, { on := 10, ground := Go.Ground.chain }, { on := 4, ground := Go.Ground.guard }], guard := some (4, true) }) (v := ?v59) rfl (by kernel_rfl) (by kernel_rfl) (by kernel_rfl) (fun _ _ _ h => h) (Or.inl ⟨by kernel_rfl, ?h59⟩) (by assumption) ?r59
  case h59 => (intro w hSw; (try dsimp only at hSw); go_simp; try with_reducible rfl)
  try simp only [Act.put, List.setIfInBounds_toArray, List.set_cons_zero, List.set_cons_succ]
  refine wpAnyH_take (i := 13) (oi := { dst := some 20, op := Go.Op.fieldAddr 51 (Go.Operand.tmp 1) 1, type := 0, pos := "dbm.go:97", after := #[{ on := 12, ground := Go.Ground.guard }], guard := some (12, false) }) (v := ?v60) rfl (by kernel_rfl) (by kernel_rfl) (by kernel_rfl) (fun _ _ _ h => h) (Or.inl ⟨by kernel_rfl, ?h60⟩) (by assumption) ?r60
  case h60 => (intro w hSw; (try dsimp only at hSw); go_simp; try with_reducible rfl)
  try simp only [Act.put, List.setIfInBounds_toArray, List.set_cons_zero, List.set_cons_succ]
  refine wpAnyH_take (i := 14) (oi := { dst := some 21, op := Go.Op.load 49 (Go.Operand.tmp 20), type := 49, pos := "dbm.go:97", after := #[{ on := 13, ground := Go.Ground.data }, { on := 12, ground := Go.Ground.guard }], guard := some (12, false) }) (v := ?v61) rfl (by kernel_rfl) (by kernel_rfl) (by kernel_rfl) (fun _ _ _ h => h) (Or.inl ⟨by kernel_rfl, ?h61⟩) (by assumption) ?r61
  case h61 => (intro w hSw; (try dsimp only at hSw); go_simp; try with_reducible rfl)
  try simp only [Act.put, List.setIfInBounds_toArray, List.set_cons_zero, List.set_cons_succ]
  refine wpAnyH_take (i := 15) (oi := { dst := some 22, op := Go.Op.fieldAddr 51 (Go.Operand.tmp 1) 0, type := 0, pos := "dbm.go:97", after := #[{ on := 12, ground := Go.Ground.guard }], guard := some (12, false) }) (v := ?v62) rfl (by kernel_rfl) (by kernel_rfl) (by kernel_rfl) (fun _ _ _ h => h) (Or.inl ⟨by kernel_rfl, ?h62⟩) (by assumption) ?r62
  case h62 => (intro w hSw; (try dsimp only at hSw); go_simp; try with_reducible rfl)
  try simp only [Act.put, List.setIfInBounds_toArray, List.set_cons_zero, List.set_cons_succ]
  refine wpAnyH_take (i := 16) (oi := { dst := some 23, op := Go.Op.load 3 (Go.Operand.tmp 22), type := 3, pos := "dbm.go:97", after := #[{ on := 15, ground := Go.Ground.data }, { on := 12, ground := Go.Ground.guard }], guard := some (12, false) }) (v := ?v63) rfl (by kernel_rfl) (by kernel_rfl) (by kernel_rfl) (fun _ _ _ h => h) (Or.inl ⟨by kernel_rfl, ?h63⟩) (by assumption) ?r63
  case h63 => (intro w hSw; (try dsimp only at hSw); go_simp; try with_reducible rfl)
  try simp only [Act.put, List.setIfInBounds_toArray, List.set_cons_zero, List.set_cons_succ]
  refine wpAnyH_take (i := 17) (oi := { dst := some 24, op := Go.Op.fieldAddr 51 (Go.Operand.tmp 1) 1, type := 0, pos := "dbm.go:97", after := #[{ on := 12, ground := Go.Ground.guard }], guard := some (12, false) }) (v := ?v64) rfl (by kernel_rfl) (by kernel_rfl) (by kernel_rfl) (fun _ _ _ h => h) (Or.inl ⟨by kernel_rfl, ?h64⟩) (by assumption) ?r64
  case h64 => (intro w hSw; (try dsimp only at hSw); go_simp; try with_reducible rfl)
  try simp only [Act.put, List.setIfInBounds_toArray, List.set_cons_zero, List.set_cons_succ]
  refine wpAnyH_take (i := 18) (oi := { dst := some 25, op := Go.Op.load 49 (Go.Operand.tmp 24), type := 49, pos := "dbm.go:97", after := #[{ on := 17, ground := Go.Ground.data }, { on := 12, ground := Go.Ground.guard }], guard := some (12, false) }) (v := ?v65) rfl (by kernel_rfl) (by kernel_rfl) (by kernel_rfl) (fun _ _ _ h => h) (Or.inl ⟨by kernel_rfl, ?h65⟩) (by assumption) ?r65
  case h65 => (intro w hSw; (try dsimp only at hSw); go_simp; try with_reducible rfl)
  try simp only [Act.put, List.setIfInBounds_toArray, List.set_cons_zero, List.set_cons_succ]
  refine wpAnyH_ready (rs := [19]) (by kernel_rfl) (by simp) ?_
  refine AllReadyH.cons (o := { dst := some 26, op := Go.Op.call { callee := Go.Callee.value (Go.Operand.func 132), args := #[Go.Operand.tmp 23, Go.Operand.tmp 25], argTypes := #[3, 49] }, type := 49, pos := "dbm.go:97", after := #[{ on := 16, ground := Go.Ground.data }, { on := 18, ground := Go.Ground.data }, { on := 12, ground := Go.Ground.chain }, { on := 12, ground := Go.Ground.guard }], guard := some (12, false) }) rfl (fun K hK => ?_) AllReadyH.nil
  go_simp
  refine (hclo.out _ hHeld).mono ?_
  intro e w3 hmd
  obtain ⟨a3, c3, rfl, s3, b3, -⟩ := made_parts hmd
  have hw2 : Below W1.heap.size W1 w3 := hHeld.trans (b3.mono hHeld.size)
  have heq := Lib.hid (fun W (hW : Below w3.heap.size w3 W) => zequal_any a a3 l R m R.length c c3 hml.out rfl (by omega) (by omega) W.heap.size W ((hsl.out.below hw2).below hW).sees ((s3.below hW).mono hW.size))
  clear hmd s3
  go_simp
  refine hK.out _ _ (hw2) (fun hHeld => ?_)
  clear hK K
  try simp only [Act.put, List.setIfInBounds_toArray, List.set_cons_zero, List.set_cons_succ]
  refine wpAnyH_now hHeld (fun hHeld => ?_)
  replace hc0 := rebase hc0 (hw2)
  replace hc1 := rebase hc1 (hw2)
  refine wpAnyH_ready (rs := [20]) (by kernel_rfl) (by simp) ?_
  refine AllReadyH.cons (o := { dst := some 27, op := Go.Op.call { callee := Go.Callee.value (Go.Operand.func 131), args := #[Go.Operand.tmp 21, Go.Operand.tmp 26], argTypes := #[49, 49] }, type := 4, pos := "dbm.go:97", after := #[{ on := 14, ground := Go.Ground.data }, { on := 19, ground := Go.Ground.data }, { on := 19, ground := Go.Ground.chain }, { on := 12, ground := Go.Ground.guard }], guard := some (12, false) }) rfl (fun K hK => ?_) AllReadyH.nil
  go_simp
  refine (heq.out _ hHeld).mono ?_
  rintro e w5 ⟨rfl, m5, rfl⟩
  rw [hd'.out]
  go_simp
  refine hK.out _ _ (Below.drewN hHeld m5) (fun hHeld => ?_)
  clear hK K
  try simp only [Act.put, List.setIfInBounds_toArray, List.set_cons_zero, List.set_cons_succ]
  refine wpAnyH_take (i := 21) (oi := { dst := some 28, op := Go.Op.unOp Go.UnOp.not 4 (Go.Operand.tmp 27), type := 4, pos := "dbm.go:97", after := #[{ on := 20, ground := Go.Ground.data }, { on := 12, ground := Go.Ground.guard }], guard := some (12, false) }) (v := ?v66) rfl (by kernel_rfl) (by kernel_rfl) (by kernel_rfl) (fun _ _ _ h => h) (Or.inl ⟨by kernel_rfl, ?h66⟩) (by assumption) ?r66
  case h66 => (intro w hSw; (try dsimp only at hSw); go_simp; try with_reducible rfl)
  try simp only [Act.put, List.setIfInBounds_toArray, List.set_cons_zero, List.set_cons_succ]
  refine wpAnyH_take (i := 22) (oi := { dst := some 29, op := Go.Op.pick (Go.Operand.tmp 19) (Go.Operand.const (Go.Value.bool true)) (Go.Operand.tmp 28), type := 4, pos := "dbm.go:97", after := #[{ on := 12, ground := Go.Ground.data }, { on := 21, ground := Go.Ground.data }, { on := 4, ground := Go.Ground.guard }], guard := some (4, true) }) (v := ?v67) rfl (by kernel_rfl) (by kernel_rfl) (by kernel_rfl) (fun _ _ _ h => h) (Or.inl ⟨by kernel_rfl, ?h67⟩) (by assumption) ?r67
  case h67 => (intro w hSw; (try dsimp only at hSw); go_simp; try with_reducible rfl)
  try simp only [Act.put, List.setIfInBounds_toArray, List.set_cons_zero, List.set_cons_succ]
  refine wpAnyH_take (i := 23) (oi := { dst := some 30, op := Go.Op.pick (Go.Operand.tmp 11) (Go.Operand.tmp 29) (Go.Operand.const (Go.Value.bool false)), type := 4, pos := "dbm.go:97", after := #[{ on := 4, ground := Go.Ground.data }, { on := 22, ground := Go.Ground.data }], guard := none }) (v := ?v68) rfl (by kernel_rfl) (by kernel_rfl) (by kernel_rfl) (fun _ _ _ h => h) (Or.inl ⟨by kernel_rfl, ?h68⟩) (by assumption) ?r68
  case h68 => (intro w hSw; (try dsimp only at hSw); go_simp; try with_reducible rfl)
  try simp only [Act.put, List.setIfInBounds_toArray, List.set_cons_zero, List.set_cons_succ]
  refine wpAnyH_done (by kernel_rfl) ?_ _
  cases d
  · have : E = 80 := hE'.out.symm
    subst this
    go_wp2
    go_ret
    exact ⟨rfl, Below.drewN (hB'.out.trans (hw2.mono hB'.out.size)) m5⟩
  · have : E = 0 := hE'.out.symm
    subst this
    go_wp2
    go_ret
    exact ⟨rfl, Below.drewN (hB'.out.trans (hw2.mono hB'.out.size)) m5⟩
theorem dcheck_any (n : Int) (a : Option Addr) (m c : Nat) (l : List Int) (w : World) (h : SL w a m c l) :
    Calls Tryz.prog 82 #[.agg #[.int .i64 n, .slice a m c]] w (Gives (.int .i64 (chk n l)) w) := by
  cases hm : mayB n
  · unfold chk
    rw [checkB_no hm]
    exact dcheck_b n a m c l w h hm
  · obtain ⟨k, rfl, hk⟩ := mayB_of hm
    by_cases h0 : l = []
    · subst h0
      have hm0 : m = 0 := h.len
      subst hm0
      unfold chk
      rw [checkB_nil hm]
      exact dcheck_nil k hk a c w
    · by_cases hl : m = sz k
      · have := dcheck_sz k hk a m c l hl w h
        unfold chk
        rw [checkB_sz hk h0 (by rw [← h.len, hl])]
        exact this
      · unfold chk
        rw [checkB_len h0 (by rw [← h.len]; exact hl)]
        exact dcheck_len k hk a m c (len_pos h0 h.len) hl h.max w
/- The document's Check. -/
end Go.Proofs.YtimgocfkogebmaaGreatDoor
