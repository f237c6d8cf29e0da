/- Zones: Close, All, of both. -/
import Derived.Test.YtacbkddkjlnklaaDbmRef
namespace Go.Proofs.Ytacbkddkjlnklaa
open Go.RowKit
set_option linter.unusedVariables false
set_option linter.unusedSimpArgs false

theorem info_zone : (Try.prog.info? 24).map (·.size) = some 2 := by kernel_rfl
abbrev ZH (w : World) (g : Nat) (x y : Value) : Prop := Holds w g 24 #[x, y]
theorem zh_set {w : World} {g : Nat} {a b : Value} (h : ZH w g a b) (x y : Value) : ZH ((w.setCell ⟨g, 0, none⟩ x).setCell ⟨g, 1, none⟩ y) g x y := by
  have h1 := (h.set 0 x).set 1 y
  simpa using h1
theorem zone_ret {Q : Ending → World → Prop} {w : World} {g : Nat} {x y : Value} (hg : ZH w g x y) (hQ : Q (.returned (.agg #[x, y])) w) (act : Act) (f : Func) (n : Nat) (hf : f.results = #[.cell n 24]) (ha : act.tmps.getD n undef = .pointer (some ⟨g, 0, none⟩)) (hd : act.defers = []) :
    bodyPost Try.prog f Q Exit.ret act w :=
  bodyPost_ret (results_cell_row hf _ _ g 24 #[x, y] (0, 0) _ ha hg Try.underlying24 rfl (by rw [info_zone]; rfl)) hd hQ
theorem zone_res2 {fn : Func} {p q : Tmp} (h : fn.results = #[.cell p 24, .tmp q]) (tmps : Array Value) (w : World) (g : Nat) (x y u : Value)
    (hp : tmps.getD p undef = .pointer (some ⟨g, 0, none⟩)) (hq : tmps.getD q undef = u) (hg : ZH w g x y) : (results fn tmps).run Try.prog w = .ok (.tuple #[.agg #[x, y], u]) w := by
  rw [results_cell_tmp h, hp, hq]
  simp [asAddr, run_loadVar_row w g 24 24 #[x, y] (0, 0) _ hg Try.underlying24 rfl (by rw [info_zone]; rfl), Result.andThen]
theorem zone_ret2 {Q : Ending → World → Prop} {w : World} {g : Nat} {x y u : Value} (hg : ZH w g x y) (hQ : Q (.returned (.tuple #[.agg #[x, y], u])) w) (act : Act) (f : Func) (n m : Nat) (hf : f.results = #[.cell n 24, .tmp m]) (ha : act.tmps.getD n undef = .pointer (some ⟨g, 0, none⟩)) (hm : act.tmps.getD m undef = u) (hd : act.defers = []) :
    bodyPost Try.prog f Q Exit.ret act w :=
  bodyPost_ret (zone_res2 hf _ _ g x y u ha hm hg) hd hQ

/-- Nothing of what was there. -/
def New (w : World) (a : Option Addr) : Prop := ∀ p, a = some p → w.heap.size ≤ p.block
theorem New.none (w : World) : New w none := by intro p hp; cases hp
theorem New.own {w w' : World} {base : Nat} {e : TypeId} {a : Option Addr} {m c n : Nat} {xs : List Value} (h : w'.ownsRow base e 1 (.slice a m c) n xs) (hb : w.heap.size ≤ base) : New w a := by
  rintro p rfl
  have := (h.lt p.block (by simp [Value.ownBlock])).1
  omega
/-- A zone that is handed back. -/
def ZoneS (n : Int) (l : List Int) (w : World) (e : Ending) (w' : World) : Prop :=
  ∃ a c, e = .returned (.agg #[.int .i64 n, .slice a l.length c]) ∧ l.length ≤ c ∧ Sees .i64 w'.heap.size w' a l ∧ Below w.heap.size w w' ∧ New w a
def ZoneE (n : Int) (l : List Int) (err : Int) (w : World) (e : Ending) (w' : World) : Prop :=
  ∃ a c, e = .returned (.tuple #[.agg #[.int .i64 n, .slice a l.length c], .int .i64 err]) ∧ l.length ≤ c ∧ Sees .i64 w'.heap.size w' a l ∧ Below w.heap.size w w' ∧ New w a
theorem made_parts {e0 : TypeId} {w w' : World} {l : List Int} {e : Ending} (h : Made e0 .i64 w l e w') : ∃ a cap, e = .returned (.slice a l.length cap) ∧ Sees .i64 w'.heap.size w' a l ∧ Below w.heap.size w w' ∧ l.length ≤ cap := h.openc _ rfl

def okM (n : Int) (k : Nat) : Bool := mayB n && decide (k = sz n.toNat)
theorem mayB_nat {n : Nat} (hn : n ≤ 8) : mayB (n : Int) = true := by unfold mayB; simp; omega
theorem mayB_of {n : Int} (h : mayB n = true) : ∃ k : Nat, n = k ∧ k ≤ 8 := by
  unfold mayB at h
  rw [Bool.and_eq_true, decide_eq_true_eq, decide_eq_true_eq] at h
  exact ⟨n.toNat, by omega, by omega⟩

/-- What is handed back is put into the zone's block. -/
theorem zone_end {w W1 w3 : World} {g : Nat} {z0 z1 : Value} {R : List Int} {e : Ending} (hB : Below w.heap.size w W1) (hg : w.heap.size ≤ g) (hz : ZH W1 g z0 z1) (hm : Made 3 .i64 W1 R e w3) :
    ∃ a c, e = .returned (.slice a R.length c) ∧ ZH w3 g z0 z1 ∧ ∀ n err : Int, ZH ((w3.setCell ⟨g, 0, none⟩ (.int .i64 n)).setCell ⟨g, 1, none⟩ (.slice a R.length c)) g (.int .i64 n) (.slice a R.length c) ∧
      ZoneE n R err w (.returned (.tuple #[.agg #[.int .i64 n, .slice a R.length c], .int .i64 err])) ((w3.setCell ⟨g, 0, none⟩ (.int .i64 n)).setCell ⟨g, 1, none⟩ (.slice a R.length c)) ∧
      ZoneS n R w (.returned (.agg #[.int .i64 n, .slice a R.length c])) ((w3.setCell ⟨g, 0, none⟩ (.int .i64 n)).setCell ⟨g, 1, none⟩ (.slice a R.length c)) := by
  obtain ⟨v, rfl, hown, hb⟩ := hm
  have hlt := hz.lt
  obtain ⟨a, c, rfl, -, -⟩ := sees_own hown
  have hz3 := hz.below hb hlt
  refine ⟨a, c, rfl, hz3, fun n err => ?_⟩
  have hE : BelowE [g] w3.heap.size w3 ((w3.setCell ⟨g, 0, none⟩ (.int .i64 n)).setCell ⟨g, 1, none⟩ (.slice a R.length c)) := ((BelowE.refl _ _ _).setIn (p := ⟨g, 0, none⟩) (by simp) _).setIn (p := ⟨g, 1, none⟩) (by simp) _
  have hown2 := own_belowE hown hE (fun k hk => by
    have := (hown.lt k hk).1
    simp only [List.mem_singleton]
    omega)
  obtain ⟨a', c', hv, -, hs⟩ := sees_own hown2
  injection hv with e1 _ e3
  subst e1 e3
  have hbb : Below w.heap.size w ((w3.setCell ⟨g, 0, none⟩ (.int .i64 n)).setCell ⟨g, 1, none⟩ (.slice a R.length c)) := ((hB.trans (hb.mono hB.size)).setCell (p := ⟨g, 0, none⟩) hg _).setCell (p := ⟨g, 1, none⟩) hg _
  have hnew : New w a := New.own hown hB.size
  exact ⟨zh_set hz3 _ _, ⟨a, c, rfl, own_cap hown, hs, hbb, hnew⟩, ⟨a, c, rfl, own_cap hown, hs, hbb, hnew⟩⟩
theorem zone_none {w W1 : World} {g : Nat} {z0 z1 : Value} (hB : Below w.heap.size w W1) (hg : w.heap.size ≤ g) (hz : ZH W1 g z0 z1) (n err : Int) :
    ZH ((W1.setCell ⟨g, 0, none⟩ (.int .i64 n)).setCell ⟨g, 1, none⟩ (.slice none 0 0)) g (.int .i64 n) (.slice none 0 0) ∧
      ZoneE n [] err w (.returned (.tuple #[.agg #[.int .i64 n, .slice none 0 0], .int .i64 err])) ((W1.setCell ⟨g, 0, none⟩ (.int .i64 n)).setCell ⟨g, 1, none⟩ (.slice none 0 0)) ∧
      ZoneS n [] w (.returned (.agg #[.int .i64 n, .slice none 0 0])) ((W1.setCell ⟨g, 0, none⟩ (.int .i64 n)).setCell ⟨g, 1, none⟩ (.slice none 0 0)) := by
  have hbb : Below w.heap.size w ((W1.setCell ⟨g, 0, none⟩ (.int .i64 n)).setCell ⟨g, 1, none⟩ (.slice none 0 0)) := (hB.setCell (p := ⟨g, 0, none⟩) hg _).setCell (p := ⟨g, 1, none⟩) hg _
  exact ⟨zh_set hz _ _, ⟨none, 0, rfl, Nat.le_refl _, .inl rfl, hbb, New.none _⟩, ⟨none, 0, rfl, Nat.le_refl _, .inl rfl, hbb, New.none _⟩⟩
theorem zone_new {w : World} : Below w.heap.size w (w.alloc (.cells #[.int .i64 0, .slice none 0 0] 24)) ∧ ZH (w.alloc (.cells #[.int .i64 0, .slice none 0 0] 24)) w.heap.size (.int .i64 0) (.slice none 0 0) :=
  ⟨(Below.refl _ _).alloc (Nat.le_refl _) _, Holds.new w _ _⟩

theorem dclose_ok (n : Nat) (hn : n ≤ 8) (a : Option Addr) (M : List Int) (len c : Nat) (hM : len = M.length) (hl : len = sz n) (w : World) (h : Sees .i64 w.heap.size w a M) :
    Calls Try.prog 67 #[.int .i64 n, .slice a len c] w (ZoneE n (closedL n M) 0 w) := by
  obtain ⟨W1, hW1⟩ : ∃ W1, W1 = w.alloc (.cells #[.int .i64 0, .slice none 0 0] 24) := ⟨_, rfl⟩
  have hB : Below w.heap.size w W1 := by rw [hW1]; exact (Below.refl _ _).alloc (Nat.le_refl _) _
  have hz : ZH W1 w.heap.size (.int .i64 0) (.slice none 0 0) := by rw [hW1]; exact Holds.new w _ _
  have hmay := Lib.hid (fun W => may_any n W)
  have hsize := Lib.hid (fun W => size_any n hn W)
  have hcl := Lib.hid (closed_any n hn a M len c hM hl W1 ((h.below hB).mono hB.size))
  rw [mayB_nat hn] at hmay
  have hle : ((sz n : Nat) : Int) = (len : Int) := by rw [hl]
  rw [hle] at hsize
  have hB' := Lib.hid hB
  have hz' := Lib.hid hz
  have hW1' := Lib.hid hW1
  clear hW1 hB hz hle h hM hl
  generalize closedL n M = R at *
  go_enter Try.func67, Try.ntmps67
  go_wp2_with fail
  refine (hmay.out _).mono ?_
  rintro e w2 ⟨rfl, rfl⟩
  go_wp2_with fail
  refine (hsize.out _).mono ?_
  rintro e w2 ⟨rfl, rfl⟩
  go_wp2_with fail
  rw [← hW1'.out]
  refine hcl.out.mono ?_
  intro e w3 hm
  obtain ⟨a3, c3, rfl, hz3, hall⟩ := zone_end hB'.out (Nat.le_refl _) hz'.out hm
  have hfin := Lib.hid (hall n 0)
  have k0 := hz3.cell 0
  have k1 := hz3.cell 1
  have f0 := hz3.free 0
  have f1 := hz3.free 1
  clear hz3 hm hall
  go_wp2
  exact zone_ret2 hfin.out.1 hfin.out.2.1 _ _ 4 5 rfl rfl rfl rfl
theorem dclose_no (n : Int) (a : Option Addr) (len c : Nat) (hlen : len ≤ 9223372036854775807) (hno : okM n len = false) (w : World) :
    Calls Try.prog 67 #[.int .i64 n, .slice a len c] w (ZoneE 0 [] 1 w) := by
  have hmay := Lib.hid (fun W => may_any n W)
  by_cases hm : mayB n = true
  · obtain ⟨k, rfl, hk⟩ := mayB_of hm
    have hne : ¬ len = sz k := by
      unfold okM at hno
      rw [hm, Bool.true_and, decide_eq_false_iff_not] at hno
      exact hno
    have hsize := Lib.hid (fun W => size_any k hk W)
    rw [hm] at hmay
    have hs81 := sz_le hk
    generalize sz k = s at *
    have hne2 : ¬ (len : Int) = (s : Int) := by omega
    have hne3 : ((len : Int) == (s : Int)) = false := by simpa using hne2
    clear hno hm
    go_enter Try.func67, Try.ntmps67
    go_wp2_with fail
    refine (hmay.out _).mono ?_
    rintro e w2 ⟨rfl, rfl⟩
    go_wp2_with fail
    refine (hsize.out _).mono ?_
    rintro e w2 ⟨rfl, rfl⟩
    go_wp2
    exact zone_ret2 zone_new.2 ⟨none, 0, rfl, Nat.le_refl _, .inl rfl, zone_new.1, New.none _⟩ _ _ 4 5 rfl rfl rfl rfl
  · rw [Bool.not_eq_true] at hm
    rw [hm] at hmay
    go_enter Try.func67, Try.ntmps67
    go_wp2_with fail
    refine (hmay.out _).mono ?_
    rintro e w2 ⟨rfl, rfl⟩
    go_wp2
    exact zone_ret2 zone_new.2 ⟨none, 0, rfl, Nat.le_refl _, .inl rfl, zone_new.1, New.none _⟩ _ _ 4 5 rfl rfl rfl rfl

def allL (n : Nat) : List Int := matL n widestF
theorem dall_ok (n : Nat) (hn : n ≤ 8) (w : World) : Calls Try.prog 65 #[.int .i64 n] w (ZoneE n (allL n) 0 w) := by
  obtain ⟨W1, hW1⟩ : ∃ W1, W1 = w.alloc (.cells #[.int .i64 0, .slice none 0 0] 24) := ⟨_, rfl⟩
  obtain ⟨hB, hz⟩ : Below w.heap.size w W1 ∧ ZH W1 w.heap.size (.int .i64 0) (.slice none 0 0) := by rw [hW1]; exact zone_new
  have hmay := Lib.hid (fun W => may_any n W)
  have hcl := Lib.hid (each_widest n hn widestF W1 (fun i j hi hj W hW => (widest_any i j (by omega) (by omega) W).mono (by rintro e w' ⟨rfl, rfl⟩; exact ⟨rfl, 0, rfl⟩)))
  rw [mayB_nat hn] at hmay
  have hB' := Lib.hid hB
  have hz' := Lib.hid hz
  have hW1' := Lib.hid hW1
  clear hW1 hB hz
  unfold allL
  generalize matL n widestF = R at *
  go_enter Try.func65, Try.ntmps65
  go_wp2_with fail
  refine (hmay.out _).mono ?_
  rintro e w2 ⟨rfl, rfl⟩
  go_wp2_with fail
  rw [← hW1'.out]
  refine hcl.out.mono ?_
  intro e w3 hm
  obtain ⟨a3, c3, rfl, hz3, hall⟩ := zone_end hB'.out (Nat.le_refl _) hz'.out hm
  have hfin := Lib.hid (hall n 0)
  have k0 := hz3.cell 0
  have k1 := hz3.cell 1
  have f0 := hz3.free 0
  have f1 := hz3.free 1
  clear hz3 hm hall
  go_wp2
  exact zone_ret2 hfin.out.1 hfin.out.2.1 _ _ 2 3 rfl rfl rfl rfl
theorem dall_no (n : Int) (hno : mayB n = false) (w : World) : Calls Try.prog 65 #[.int .i64 n] w (ZoneE 0 [] 1 w) := by
  have hmay := Lib.hid (fun W => may_any n W)
  rw [hno] at hmay
  clear hno
  go_enter Try.func65, Try.ntmps65
  go_wp2_with fail
  refine (hmay.out _).mono ?_
  rintro e w2 ⟨rfl, rfl⟩
  go_wp2
  exact zone_ret2 zone_new.2 ⟨none, 0, rfl, Nat.le_refl _, .inl rfl, zone_new.1, New.none _⟩ _ _ 2 3 rfl rfl rfl rfl

set_option maxRecDepth 100000 in
set_option maxHeartbeats 4000000 in
theorem rclose_any (n : Nat) (hn : n ≤ 8) (a : Option Addr) (M : List Int) (len c : Nat) (hM : len = M.length) (hl : len = sz n) (w : World) (h : Sees .i64 w.heap.size w a M) :
    Calls Try.prog 54 #[.int .i64 n, .slice a len c] w (ZoneS n (closedL n M) w) := by
  rw [close_both hn]
  obtain ⟨W1, hW1⟩ : ∃ W1, W1 = w.alloc (.cells #[.int .i64 0, .slice none 0 0] 24) := ⟨_, rfl⟩
  obtain ⟨hB, hz⟩ : Below w.heap.size w W1 ∧ ZH W1 w.heap.size (.int .i64 0) (.slice none 0 0) := by rw [hW1]; exact zone_new
  have hclip := Lib.hid (rclip_any n hn a M len c hM hl W1 ((h.below hB).mono hB.size))
  have hB' := Lib.hid hB
  have hz' := Lib.hid hz
  have hW1' := Lib.hid hW1
  have hn' := Lib.hid hn
  have hni : (n : Int) ≤ 8 := by omega
  have hs81 := sz_le hn
  have hres : Hid (refCloseL n M = if belowL n (sq n (clipL n M) 4) = true then [] else sq n (clipL n M) 4) := Lib.hid rfl
  have hnx : Hid (∀ t, sq n (clipL n M) (t + 1) = twL n (sq n (clipL n M) t)) := Lib.hid (fun _ => rfl)
  have hbd : Hid (∀ t, t ≤ 4 → ∀ p, -100000000000000 ≤ (sq n (clipL n M) t).getD p 0 ∧ (sq n (clipL n M) t).getD p 0 ≤ 100000000000000) := Lib.hid (fun t ht p => sq_bound ht p)
  have hln : Hid (∀ t, (sq n (clipL n M) t).length = sz n) := Lib.hid (fun t => sq_len (clip_len _ _) t)
  have hs0 : Hid (clipL n M = sq n (clipL n M) 0) := Lib.hid rfl
  clear hW1 hB hz h hM hl
  generalize refCloseL n M = R at *
  generalize hC : sq n (clipL n M) = Q at *
  generalize clipL n M = C0 at *
  clear hC
  go_enter Try.func54, Try.ntmps54
  go_wp2_with fail
  rw [← hW1'.out]
  refine hclip.out.mono ?_
  rintro e w3 ⟨v, rfl, hown, hb3⟩
  have hst : Hid (Made 3 .i64 W1 (Q 0) (.returned v) w3) := Lib.hid (by rw [← hs0.out]; exact ⟨v, rfl, hown, hb3⟩)
  clear hown hb3 hclip
  go_wp2
  go_loopw [5, 6] (fun v x wr => ∃ t : Nat, t ≤ 4 ∧ x = .int .i64 t ∧ Hid (Made 3 .i64 W1 (Q t) (.returned v) wr)) (fun _ x _ => 4 - (intOf x).toNat)
  case atStart => exact ⟨0, by omega, rfl, hst⟩
  case round =>
    clear hst
    obtain ⟨t, ht, rfl, hm⟩ := hrel
    by_cases hlt : t < 4
    · have hti : (t : Int) < 4 := by omega
      obtain ⟨a4, c4, he, s4, b4, -⟩ := made_parts hm.out
      injection he with he
      subst he
      have hle := hln.out t
      rw [hle]
      have htw := Lib.hid (twice_any n hn'.out a4 (Q t) (sz n) c4 hle.symm rfl (hbd.out t ht) wr s4)
      have b4' := Lib.hid b4
      clear hm s4 b4 hle
      go_wp2_with fail
      refine htw.out.mono ?_
      rintro e w5 ⟨v5, rfl, hown5, hb5⟩
      have hm5 : Hid (Made 3 .i64 W1 (Q (t + 1)) (.returned v5) w5) := Lib.hid (by
        rw [hnx.out]
        exact ⟨v5, rfl, own_from hown5 (fun k hk => by have := (hown5.lt k hk).1; have := b4'.out.size; omega), b4'.out.trans (hb5.mono b4'.out.size)⟩)
      clear hown5 hb5 htw
      go_wp2
      go_roundw
      case rel => exact ⟨t + 1, by omega, by go_num, hm5⟩
      case measure => simp [intOf]; omega
    · have hte : t = 4 := by omega
      subst hte
      have hm4 := hm.out
      obtain ⟨a4, c4, he, s4, b4, -⟩ := made_parts hm4
      injection he with he
      subst he
      have hle := hln.out 4
      have hz3 := hz'.out.below b4 hz'.out.lt
      obtain ⟨a5, c5, he5, -, hall⟩ := zone_end hB'.out (Nat.le_refl _) hz'.out hm4
      injection he5 with he5
      injection he5 with e1 _ e3
      subst e1 e3
      have hend := Lib.hid (hall n 0)
      have hnone := Lib.hid (zone_none (hB'.out.trans (b4.mono hB'.out.size)) (Nat.le_refl _) hz3 n 0)
      have k0 := hz3.cell 0
      have k1 := hz3.cell 1
      have f0 := hz3.free 0
      have f1 := hz3.free 1
      have s4' := Lib.hid s4
      have hle' := Lib.hid hle
      rw [hle] at hend ⊢
      clear hm hm4 s4 b4 hz3 hall hle
      generalize Q 4 = D at *
      go_wp2
      go_loop [7] (fun x => ∃ i : Nat, i ≤ n + 1 ∧ x = .int .i64 i ∧ Hid (∀ j, j < i → ¬ mat n D j j < 0)) (fun x => n + 1 - (intOf x).toNat)
      case atStart => exact ⟨0, by omega, rfl, Lib.hid (by intro j hj; omega)⟩
      case round =>
        obtain ⟨i, hin, rfl, hno⟩ := hrel
        by_cases hlt : i < n + 1
        · have hii : (i : Int) ≤ (n : Int) := by omega
          obtain ⟨p, q, w1, w2, w3, hq, hqs, -, -, -⟩ := place_wraps hn'.out (show i ≤ n by omega) (show i ≤ n by omega)
          obtain ⟨b, off, hae, -, hc⟩ := sees_at' s4'.out (i := q) (by have := hle'.out; omega)
          subst hae
          have hqi : (q : Int) < ((sz n : Nat) : Int) := by omega
          have hyes : Hid (D.getD q 0 < 0 → belowL n D = true) := Lib.hid (fun hlt0 => (belowL_iff n D).2 ⟨i, by omega, by unfold mat; rw [← hq]; exact hlt0⟩)
          have hnext : Hid (¬ D.getD q 0 < 0 → ∀ j, j < i + 1 → ¬ mat n D j j < 0) := Lib.hid (fun hlt0 j hj => by
            by_cases e : j = i
            · subst e; unfold mat; rw [← hq]; exact hlt0
            · exact hno.out j (by omega))
          clear hno hq hqs
          generalize D.getD q 0 = x at *
          by_cases hx : x < 0
          · have hr : Hid (R = []) := Lib.hid (by rw [hres.out, if_pos (hyes.out hx)])
            clear hyes hnext hend
            go_wp2
            rw [hr.out]
            exact zone_ret hnone.out.1 hnone.out.2.2 _ _ 4 rfl rfl rfl
          · have hn2 := Lib.hid (hnext.out hx)
            clear hyes hnext
            go_wp2
            go_round
            case rel => exact ⟨i + 1, by omega, by go_num, hn2⟩
            case measure => simp [intOf]; omega
        · have hie : i = n + 1 := by omega
          have hr : Hid (R = D) := Lib.hid (by
            rw [hres.out, if_neg]
            intro hb
            obtain ⟨i', hi', hl'⟩ := (belowL_iff n D).1 hb
            exact hno.out i' (by omega) hl')
          clear hno
          go_wp2
          rw [hr.out]
          exact zone_ret hend.out.1 hend.out.2.2 _ _ 4 rfl rfl rfl
end Go.Proofs.Ytacbkddkjlnklaa
