import Derived.Test.YtplgmmjppmpnoaaGreatDoorQ04
/- Zones: Close, All, of both. -/
namespace Go.Proofs.YtplgmmjppmpnoaaGreatDoor
open Go.RowKit
set_option linter.unusedVariables false
set_option linter.unusedSimpArgs false

theorem info_zone : (Tryz.prog.info? 24).map (·.size) = some 2 := by kernel_rfl
abbrev ZH (w : World) (g : Nat) (x y : Value) : Prop := Holds w g 24 #[x, y]
theorem zh_set {w : World} {g : Nat} {a b : Value} (h : ZH w g a b) (x y : Value) : ZH ((w.setCell ⟨g, 0, none⟩ x).setCell ⟨g, 1, none⟩ y) g x y := by
  have h1 := (h.set 0 x).set 1 y
  simpa using h1
theorem zone_ret {Q : Ending → World → Prop} {w : World} {g : Nat} {x y : Value} (hg : ZH w g x y) (hQ : Q (.returned (.agg #[x, y])) w) (act : Act) (f : Func) (n : Nat) (hf : f.results = #[.cell n 24]) (ha : act.tmps.getD n undef = .pointer (some ⟨g, 0, none⟩)) (hd : act.defers = []) :
    bodyPost Tryz.prog f Q Exit.ret act w :=
  bodyPost_ret (results_cell_row hf _ _ g 24 #[x, y] (0, 0) _ ha hg Tryz.underlying24 rfl (by rw [info_zone]; rfl)) hd hQ
theorem zone_res2 {fn : Func} {p q : Tmp} (h : fn.results = #[.cell p 24, .tmp q]) (tmps : Array Value) (w : World) (g : Nat) (x y u : Value)
    (hp : tmps.getD p undef = .pointer (some ⟨g, 0, none⟩)) (hq : tmps.getD q undef = u) (hg : ZH w g x y) : (results fn tmps).run Tryz.prog w = .ok (.tuple #[.agg #[x, y], u]) w := by
  rw [results_cell_tmp h, hp, hq]
  simp [asAddr, run_loadVar_row w g 24 24 #[x, y] (0, 0) _ hg Tryz.underlying24 rfl (by rw [info_zone]; rfl), Result.andThen]
theorem zone_ret2 {Q : Ending → World → Prop} {w : World} {g : Nat} {x y u : Value} (hg : ZH w g x y) (hQ : Q (.returned (.tuple #[.agg #[x, y], u])) w) (act : Act) (f : Func) (n m : Nat) (hf : f.results = #[.cell n 24, .tmp m]) (ha : act.tmps.getD n undef = .pointer (some ⟨g, 0, none⟩)) (hm : act.tmps.getD m undef = u) (hd : act.defers = []) :
    bodyPost Tryz.prog f Q Exit.ret act w :=
  bodyPost_ret (zone_res2 hf _ _ g x y u ha hm hg) hd hQ

/-- Nothing of what was there. -/
def New (w : World) (a : Option Addr) : Prop := ∀ p, a = some p → w.heap.size ≤ p.block
theorem New.none (w : World) : New w none := by intro p hp; cases hp
theorem New.own {w w' : World} {base : Nat} {e : TypeId} {a : Option Addr} {m c n : Nat} {xs : List Value} (h : w'.ownsRow base e 1 (.slice a m c) n xs) (hb : w.heap.size ≤ base) : New w a := by
  rintro p rfl
  have := (h.lt p.block (by simp [Value.ownBlock])).1
  omega
/-- A zone that is handed back. -/
def ZoneS (n : Int) (l : List Int) (w : World) (e : Ending) (w' : World) : Prop :=
  ∃ a c, e = .returned (.agg #[.int .i64 n, .slice a l.length c]) ∧ l.length ≤ c ∧ Sees .i64 w'.heap.size w' a l ∧ Below w.heap.size w w' ∧ New w a
def ZoneE (n : Int) (l : List Int) (err : Int) (w : World) (e : Ending) (w' : World) : Prop :=
  ∃ a c, e = .returned (.tuple #[.agg #[.int .i64 n, .slice a l.length c], .int .i64 err]) ∧ l.length ≤ c ∧ Sees .i64 w'.heap.size w' a l ∧ Below w.heap.size w w' ∧ New w a
theorem made_parts {e0 : TypeId} {w w' : World} {l : List Int} {e : Ending} (h : Made e0 .i64 w l e w') : ∃ a cap, e = .returned (.slice a l.length cap) ∧ Sees .i64 w'.heap.size w' a l ∧ Below w.heap.size w w' ∧ l.length ≤ cap := h.openc _ rfl

def okM (n : Int) (k : Nat) : Bool := mayB n && decide (k = sz n.toNat)
theorem mayB_nat {n : Nat} (hn : n ≤ 8) : mayB (n : Int) = true := by unfold mayB; simp; omega
theorem mayB_of {n : Int} (h : mayB n = true) : ∃ k : Nat, n = k ∧ k ≤ 8 := by
  unfold mayB at h
  rw [Bool.and_eq_true, decide_eq_true_eq, decide_eq_true_eq] at h
  exact ⟨n.toNat, by omega, by omega⟩

/-- What is handed back is put into the zone's block. -/
theorem zone_end {w W1 w3 : World} {g : Nat} {z0 z1 : Value} {R : List Int} {e : Ending} (hB : Below w.heap.size w W1) (hg : w.heap.size ≤ g) (hz : ZH W1 g z0 z1) (hm : Made 3 .i64 W1 R e w3) :
    ∃ a c, e = .returned (.slice a R.length c) ∧ ZH w3 g z0 z1 ∧ ∀ n err : Int, ZH ((w3.setCell ⟨g, 0, none⟩ (.int .i64 n)).setCell ⟨g, 1, none⟩ (.slice a R.length c)) g (.int .i64 n) (.slice a R.length c) ∧
      ZoneE n R err w (.returned (.tuple #[.agg #[.int .i64 n, .slice a R.length c], .int .i64 err])) ((w3.setCell ⟨g, 0, none⟩ (.int .i64 n)).setCell ⟨g, 1, none⟩ (.slice a R.length c)) ∧
      ZoneS n R w (.returned (.agg #[.int .i64 n, .slice a R.length c])) ((w3.setCell ⟨g, 0, none⟩ (.int .i64 n)).setCell ⟨g, 1, none⟩ (.slice a R.length c)) := by
  obtain ⟨v, rfl, hown, hb⟩ := hm
  have hlt := hz.lt
  obtain ⟨a, c, rfl, -, -⟩ := sees_own hown
  have hz3 := hz.below hb hlt
  refine ⟨a, c, rfl, hz3, fun n err => ?_⟩
  have hE : BelowE [g] w3.heap.size w3 ((w3.setCell ⟨g, 0, none⟩ (.int .i64 n)).setCell ⟨g, 1, none⟩ (.slice a R.length c)) := ((BelowE.refl _ _ _).setIn (p := ⟨g, 0, none⟩) (by simp) _).setIn (p := ⟨g, 1, none⟩) (by simp) _
  have hown2 := own_belowE hown hE (fun k hk => by
    have := (hown.lt k hk).1
    simp only [List.mem_singleton]
    omega)
  obtain ⟨a', c', hv, -, hs⟩ := sees_own hown2
  injection hv with e1 _ e3
  subst e1 e3
  have hbb : Below w.heap.size w ((w3.setCell ⟨g, 0, none⟩ (.int .i64 n)).setCell ⟨g, 1, none⟩ (.slice a R.length c)) := ((hB.trans (hb.mono hB.size)).setCell (p := ⟨g, 0, none⟩) hg _).setCell (p := ⟨g, 1, none⟩) hg _
  have hnew : New w a := New.own hown hB.size
  exact ⟨zh_set hz3 _ _, ⟨a, c, rfl, own_cap hown, hs, hbb, hnew⟩, ⟨a, c, rfl, own_cap hown, hs, hbb, hnew⟩⟩
theorem zone_none {w W1 : World} {g : Nat} {z0 z1 : Value} (hB : Below w.heap.size w W1) (hg : w.heap.size ≤ g) (hz : ZH W1 g z0 z1) (n err : Int) :
    ZH ((W1.setCell ⟨g, 0, none⟩ (.int .i64 n)).setCell ⟨g, 1, none⟩ (.slice none 0 0)) g (.int .i64 n) (.slice none 0 0) ∧
      ZoneE n [] err w (.returned (.tuple #[.agg #[.int .i64 n, .slice none 0 0], .int .i64 err])) ((W1.setCell ⟨g, 0, none⟩ (.int .i64 n)).setCell ⟨g, 1, none⟩ (.slice none 0 0)) ∧
      ZoneS n [] w (.returned (.agg #[.int .i64 n, .slice none 0 0])) ((W1.setCell ⟨g, 0, none⟩ (.int .i64 n)).setCell ⟨g, 1, none⟩ (.slice none 0 0)) := by
  have hbb : Below w.heap.size w ((W1.setCell ⟨g, 0, none⟩ (.int .i64 n)).setCell ⟨g, 1, none⟩ (.slice none 0 0)) := (hB.setCell (p := ⟨g, 0, none⟩) hg _).setCell (p := ⟨g, 1, none⟩) hg _
  exact ⟨zh_set hz _ _, ⟨none, 0, rfl, Nat.le_refl _, .inl rfl, hbb, New.none _⟩, ⟨none, 0, rfl, Nat.le_refl _, .inl rfl, hbb, New.none _⟩⟩
theorem zone_new {w : World} : Below w.heap.size w (w.alloc (.cells #[.int .i64 0, .slice none 0 0] 24)) ∧ ZH (w.alloc (.cells #[.int .i64 0, .slice none 0 0] 24)) w.heap.size (.int .i64 0) (.slice none 0 0) :=
  ⟨(Below.refl _ _).alloc (Nat.le_refl _) _, Holds.new w _ _⟩

theorem dclose_ok (n : Nat) (hn : n ≤ 8) (a : Option Addr) (M : List Int) (len c : Nat) (hM : len = M.length) (hl : len = sz n) (w : World) (h : Sees .i64 w.heap.size w a M) :
    Calls Tryz.prog 70 #[.int .i64 n, .slice a len c] w (ZoneE n (closedL n M) 0 w) := by
  obtain ⟨W1, hW1⟩ : ∃ W1, W1 = w.alloc (.cells #[.int .i64 0, .slice none 0 0] 24) := ⟨_, rfl⟩
  have hB : Below w.heap.size w W1 := by rw [hW1]; exact (Below.refl _ _).alloc (Nat.le_refl _) _
  have hz : ZH W1 w.heap.size (.int .i64 0) (.slice none 0 0) := by rw [hW1]; exact Holds.new w _ _
  have hmay := Lib.hid (fun W => may_any n W)
  have hsize := Lib.hid (fun W => size_any n hn W)
  have hcl := Lib.hid (closed_any n hn a M len c hM hl W1 ((h.below hB).mono hB.size))
  rw [mayB_nat hn] at hmay
  have hle : ((sz n : Nat) : Int) = (len : Int) := by rw [hl]
  rw [hle] at hsize
  have hB' := Lib.hid hB
  have hz' := Lib.hid hz
  have hW1' := Lib.hid hW1
  clear hW1 hB hz hle h hM hl
  generalize closedL n M = R at *
  go_enter Tryz.func70, Tryz.ntmps70
  go_wp2_with fail
  refine (hmay.out _).mono ?_
  rintro e w2 ⟨rfl, rfl⟩
  go_wp2_with fail
  refine (hsize.out _).mono ?_
  rintro e w2 ⟨rfl, rfl⟩
  go_wp2_with fail
  rw [← hW1'.out]
  refine hcl.out.mono ?_
  intro e w3 hm
  obtain ⟨a3, c3, rfl, hz3, hall⟩ := zone_end hB'.out (Nat.le_refl _) hz'.out hm
  have hfin := Lib.hid (hall n 0)
  have k0 := hz3.cell 0
  have k1 := hz3.cell 1
  have f0 := hz3.free 0
  have f1 := hz3.free 1
  clear hz3 hm hall
  go_wp2
  exact zone_ret2 hfin.out.1 hfin.out.2.1 _ _ 4 5 rfl rfl rfl rfl
theorem dclose_no (n : Int) (a : Option Addr) (len c : Nat) (hlen : len ≤ 9223372036854775807) (hno : okM n len = false) (w : World) :
    Calls Tryz.prog 70 #[.int .i64 n, .slice a len c] w (ZoneE 0 [] 1 w) := by
  have hmay := Lib.hid (fun W => may_any n W)
  by_cases hm : mayB n = true
  · obtain ⟨k, rfl, hk⟩ := mayB_of hm
    have hne : ¬ len = sz k := by
      unfold okM at hno
      rw [hm, Bool.true_and, decide_eq_false_iff_not] at hno
      exact hno
    have hsize := Lib.hid (fun W => size_any k hk W)
    rw [hm] at hmay
    have hs81 := sz_le hk
    generalize sz k = s at *
    have hne2 : ¬ (len : Int) = (s : Int) := by omega
    have hne3 : ((len : Int) == (s : Int)) = false := by simpa using hne2
    clear hno hm
    go_enter Tryz.func70, Tryz.ntmps70
    go_wp2_with fail
    refine (hmay.out _).mono ?_
    rintro e w2 ⟨rfl, rfl⟩
    go_wp2_with fail
    refine (hsize.out _).mono ?_
    rintro e w2 ⟨rfl, rfl⟩
    go_wp2
    exact zone_ret2 zone_new.2 ⟨none, 0, rfl, Nat.le_refl _, .inl rfl, zone_new.1, New.none _⟩ _ _ 4 5 rfl rfl rfl rfl
  · rw [Bool.not_eq_true] at hm
    rw [hm] at hmay
    go_enter Tryz.func70, Tryz.ntmps70
    go_wp2_with fail
    refine (hmay.out _).mono ?_
    rintro e w2 ⟨rfl, rfl⟩
    go_wp2
    exact zone_ret2 zone_new.2 ⟨none, 0, rfl, Nat.le_refl _, .inl rfl, zone_new.1, New.none _⟩ _ _ 4 5 rfl rfl rfl rfl

def allL (n : Nat) : List Int := matL n widestF
set_option maxRecDepth 100000 in
set_option maxHeartbeats 4000000 in
theorem rclose_any (n : Nat) (hn : n ≤ 8) (a : Option Addr) (M : List Int) (len c : Nat) (hM : len = M.length) (hl : len = sz n) (w : World) (h : Sees .i64 w.heap.size w a M) :
    Calls Tryz.prog 42 #[.int .i64 n, .slice a len c] w (ZoneS n (closedL n M) w) := by
  rw [close_both hn]
  obtain ⟨W1, hW1⟩ : ∃ W1, W1 = w.alloc (.cells #[.int .i64 0, .slice none 0 0] 24) := ⟨_, rfl⟩
  obtain ⟨hB, hz⟩ : Below w.heap.size w W1 ∧ ZH W1 w.heap.size (.int .i64 0) (.slice none 0 0) := by rw [hW1]; exact zone_new
  have hclip := Lib.hid (rclip_any n hn a M len c hM hl W1 ((h.below hB).mono hB.size))
  have hB' := Lib.hid hB
  have hz' := Lib.hid hz
  have hW1' := Lib.hid hW1
  have hn' := Lib.hid hn
  have hni : (n : Int) ≤ 8 := by omega
  have hs81 := sz_le hn
  have hres : Hid (refCloseL n M = if belowL n (sq n (clipL n M) 4) = true then [] else sq n (clipL n M) 4) := Lib.hid rfl
  have hnx : Hid (∀ t, sq n (clipL n M) (t + 1) = twL n (sq n (clipL n M) t)) := Lib.hid (fun _ => rfl)
  have hbd : Hid (∀ t, t ≤ 4 → ∀ p, -100000000000000 ≤ (sq n (clipL n M) t).getD p 0 ∧ (sq n (clipL n M) t).getD p 0 ≤ 100000000000000) := Lib.hid (fun t ht p => sq_bound ht p)
  have hln : Hid (∀ t, (sq n (clipL n M) t).length = sz n) := Lib.hid (fun t => sq_len (clip_len _ _) t)
  have hs0 : Hid (clipL n M = sq n (clipL n M) 0) := Lib.hid rfl
  clear hW1 hB hz h hM hl
  generalize refCloseL n M = R at *
  generalize hC : sq n (clipL n M) = Q at *
  generalize clipL n M = C0 at *
  clear hC
  go_enter Tryz.func42, Tryz.ntmps42
  go_wp2_with fail
  rw [← hW1'.out]
  refine hclip.out.mono ?_
  rintro e w3 ⟨v, rfl, hown, hb3⟩
  have hst : Hid (Made 3 .i64 W1 (Q 0) (.returned v) w3) := Lib.hid (by rw [← hs0.out]; exact ⟨v, rfl, hown, hb3⟩)
  clear hown hb3 hclip
  go_wp2
  go_loopw [5, 6] (fun v x wr => ∃ t : Nat, t ≤ 4 ∧ x = .int .i64 t ∧ Hid (Made 3 .i64 W1 (Q t) (.returned v) wr)) (fun _ x _ => 4 - (intOf x).toNat)
  case atStart => exact ⟨0, by omega, rfl, hst⟩
  case round =>
    clear hst
    obtain ⟨t, ht, rfl, hm⟩ := hrel
    by_cases hlt : t < 4
    · have hti : (t : Int) < 4 := by omega
      obtain ⟨a4, c4, he, s4, b4, -⟩ := made_parts hm.out
      injection he with he
      subst he
      have hle := hln.out t
      rw [hle]
      have htw := Lib.hid (twice_any n hn'.out a4 (Q t) (sz n) c4 hle.symm rfl (hbd.out t ht) wr s4)
      have b4' := Lib.hid b4
      clear hm s4 b4 hle
      go_wp2_with fail
      refine htw.out.mono ?_
      rintro e w5 ⟨v5, rfl, hown5, hb5⟩
      have hm5 : Hid (Made 3 .i64 W1 (Q (t + 1)) (.returned v5) w5) := Lib.hid (by
        rw [hnx.out]
        exact ⟨v5, rfl, own_from hown5 (fun k hk => by have := (hown5.lt k hk).1; have := b4'.out.size; omega), b4'.out.trans (hb5.mono b4'.out.size)⟩)
      clear hown5 hb5 htw
      go_wp2
      go_roundw
      case rel => exact ⟨t + 1, by omega, by go_num, hm5⟩
      case measure => simp [intOf]; omega
    · have hte : t = 4 := by omega
      subst hte
      have hm4 := hm.out
      obtain ⟨a4, c4, he, s4, b4, -⟩ := made_parts hm4
      injection he with he
      subst he
      have hle := hln.out 4
      have hz3 := hz'.out.below b4 hz'.out.lt
      obtain ⟨a5, c5, he5, -, hall⟩ := zone_end hB'.out (Nat.le_refl _) hz'.out hm4
      injection he5 with he5
      injection he5 with e1 _ e3
      subst e1 e3
      have hend := Lib.hid (hall n 0)
      have hnone := Lib.hid (zone_none (hB'.out.trans (b4.mono hB'.out.size)) (Nat.le_refl _) hz3 n 0)
      have k0 := hz3.cell 0
      have k1 := hz3.cell 1
      have f0 := hz3.free 0
      have f1 := hz3.free 1
      have s4' := Lib.hid s4
      have hle' := Lib.hid hle
      rw [hle] at hend ⊢
      clear hm hm4 s4 b4 hz3 hall hle
      generalize Q 4 = D at *
      go_wp2
      go_loop [7] (fun x => ∃ i : Nat, i ≤ n + 1 ∧ x = .int .i64 i ∧ Hid (∀ j, j < i → ¬ mat n D j j < 0)) (fun x => n + 1 - (intOf x).toNat)
      case atStart => exact ⟨0, by omega, rfl, Lib.hid (by intro j hj; omega)⟩
      case round =>
        obtain ⟨i, hin, rfl, hno⟩ := hrel
        by_cases hlt : i < n + 1
        · have hii : (i : Int) ≤ (n : Int) := by omega
          obtain ⟨p, q, w1, w2, w3, hq, hqs, -, -, -⟩ := place_wraps hn'.out (show i ≤ n by omega) (show i ≤ n by omega)
          obtain ⟨b, off, hae, -, hc⟩ := sees_at' s4'.out (i := q) (by have := hle'.out; omega)
          subst hae
          have hqi : (q : Int) < ((sz n : Nat) : Int) := by omega
          have hyes : Hid (D.getD q 0 < 0 → belowL n D = true) := Lib.hid (fun hlt0 => (belowL_iff n D).2 ⟨i, by omega, by unfold mat; rw [← hq]; exact hlt0⟩)
          have hnext : Hid (¬ D.getD q 0 < 0 → ∀ j, j < i + 1 → ¬ mat n D j j < 0) := Lib.hid (fun hlt0 j hj => by
            by_cases e : j = i
            · subst e; unfold mat; rw [← hq]; exact hlt0
            · exact hno.out j (by omega))
          clear hno hq hqs
          generalize D.getD q 0 = x at *
          by_cases hx : x < 0
          · have hr : Hid (R = []) := Lib.hid (by rw [hres.out, if_pos (hyes.out hx)])
            clear hyes hnext hend
            go_wp2
            rw [hr.out]
            exact zone_ret hnone.out.1 hnone.out.2.2 _ _ 4 rfl rfl rfl
          · have hn2 := Lib.hid (hnext.out hx)
            clear hyes hnext
            go_wp2
            go_round
            case rel => exact ⟨i + 1, by omega, by go_num, hn2⟩
            case measure => simp [intOf]; omega
        · have hie : i = n + 1 := by omega
          have hr : Hid (R = D) := Lib.hid (by
            rw [hres.out, if_neg]
            intro hb
            obtain ⟨i', hi', hl'⟩ := (belowL_iff n D).1 hb
            exact hno.out i' (by omega) hl')
          clear hno
          go_wp2
          rw [hr.out]
          exact zone_ret hend.out.1 hend.out.2.2 _ _ 4 rfl rfl rfl
end Go.Proofs.YtplgmmjppmpnoaaGreatDoor
/- Zones: Same of both; the document's All. -/
namespace Go.Proofs.YtplgmmjppmpnoaaGreatDoor
open Go.RowKit
set_option linter.unusedVariables false
set_option linter.unusedSimpArgs false

theorem box_below (w : World) (v1 : Array Value) (t1 : TypeId) : Below w.heap.size w (w.alloc (.cells v1 t1)) := (Below.refl _ _).alloc (Nat.le_refl _) _
theorem box2_below (w : World) (v1 v2 : Array Value) (t1 t2 : TypeId) : Below w.heap.size w ((w.alloc (.cells v1 t1)).alloc (.cells v2 t2)) := ((Below.refl _ _).alloc (Nat.le_refl _) _).alloc (by simp) _
/-- A slice argument: its length is the list's, and it reads as the list. -/
structure SL (w : World) (a : Option Addr) (m c : Nat) (l : List Int) : Prop where
  len : m = l.length
  cap : m ≤ c
  max : m ≤ 9223372036854775807
  sees : Sees .i64 w.heap.size w a l
theorem SL.below {w w' : World} {a : Option Addr} {m c : Nat} {l : List Int} (h : SL w a m c l) (hb : Below w.heap.size w w') : SL w' a m c l := ⟨h.len, h.cap, h.max, (h.sees.below hb).mono hb.size⟩
theorem SL.drewN {w : World} {a : Option Addr} {m c : Nat} {l : List Int} (h : SL w a m c l) (n : Nat) : SL (w.drewN n) a m c l := ⟨h.len, h.cap, h.max, h.sees⟩
theorem SL.nil (w : World) : SL w none 0 0 [] := ⟨rfl, Nat.le_refl _, by omega, .inl rfl⟩
set_option maxRecDepth 100000 in
set_option maxHeartbeats 1000000 in
theorem rsame_any (n1 n2 : Int) (a1 a2 : Option Addr) (l1 l2 : List Int) (m1 m2 c1 c2 : Nat) (w : World) (h1 : SL w a1 m1 c1 l1) (h2 : SL w a2 m2 c2 l2) :
    Calls Tryz.prog 29 #[.agg #[.int .i64 n1, .slice a1 m1 c1], .agg #[.int .i64 n2, .slice a2 m2 c2]] w (Gives (.bool (decide (n1 = n2) && decide (l1 = l2))) w) := by
  obtain ⟨W1, hW1⟩ : ∃ W1, W1 = (w.alloc (.cells #[.int .i64 n1, .slice a1 m1 c1] 24)).alloc (.cells #[.int .i64 n2, .slice a2 m2 c2] 24) := ⟨_, rfl⟩
  have hB : Below w.heap.size w W1 := by rw [hW1]; exact box2_below _ _ _ _ _
  have g1 := h1.below hB
  have g2 := h2.below hB
  have z1 : ZH W1 w.heap.size (.int .i64 n1) (.slice a1 m1 c1) := by rw [hW1]; exact (Holds.new w _ _).alloc _
  have z2 : ZH W1 (w.heap.size + 1) (.int .i64 n2) (.slice a2 m2 c2) := by
    rw [hW1]
    have := Holds.new (w.alloc (.cells #[.int .i64 n1, .slice a1 m1 c1] 24)) 24 #[.int .i64 n2, .slice a2 m2 c2]
    simpa using this
  have k1 := z1.cell 1
  have k2 := z2.cell 1
  have hW1' := Lib.hid hW1
  have hB' := Lib.hid hB
  by_cases hn : n1 = n2
  · have e : decide (n1 = n2) = true := decide_eq_true hn
    rw [e, Bool.true_and]
    subst hn
    clear e
    by_cases hm : m1 = m2
    · subst hm
      have hmi : (m1 : Int) ≤ 9223372036854775807 := by have := h1.max; omega
      have h1' := Lib.hid g1
      have h2' := Lib.hid g2
      clear h1 h2 g1 g2 z1 z2 hB
      go_enter Tryz.func29, Tryz.ntmps29
      go_wp2
      rw [← hW1]
      clear hW1
      go_loopw [5] (fun x wr => ∃ k m : Nat, k ≤ m1 ∧ x = .int .i64 k ∧ Hid (∀ j, j < k → l1.getD j 0 = l2.getD j 0) ∧ wr = W1.drewN m) (fun x _ => m1 - (intOf x).toNat)
      case atStart => exact ⟨0, 0, Nat.zero_le _, rfl, Lib.hid (by intro j hj; omega), rfl⟩
      case round =>
        obtain ⟨k, m, hk, rfl, he, rfl⟩ := hrel
        by_cases hlt : k < m1
        · obtain ⟨b1, o1, rfl, -, e1⟩ := sees_at' h1'.out.sees (i := k) (by have := h1'.out.len; omega)
          obtain ⟨b2, o2, rfl, -, e2⟩ := sees_at' h2'.out.sees (i := k) (by have := h2'.out.len; omega)
          have hki : (k : Int) < (m1 : Int) := by omega
          have hyes : Hid (l1.getD k 0 = l2.getD k 0 → ∀ j, j < k + 1 → l1.getD j 0 = l2.getD j 0) := Lib.hid (fun hx j hj => by
            by_cases e : j = k
            · subst e; exact hx
            · exact he.out j (by omega))
          have hno : Hid (l1.getD k 0 ≠ l2.getD k 0 → decide (l1 = l2) = false) := Lib.hid (fun hx => decide_eq_false (fun e => hx (by rw [e])))
          clear he
          generalize l1.getD k 0 = x at *
          generalize l2.getD k 0 = y at *
          by_cases hxy : x = y
          · subst hxy
            have hy2 := Lib.hid (hyes.out rfl)
            clear hyes hno
            go_wp2
            go_quiet (fail)
            go_wp2
            go_roundw
            case rel => exact ⟨k + 1, m + nq, by omega, by go_num, hy2, by simp [World.drewN, Nat.add_assoc]⟩
            case measure => simp [intOf]; omega
          · have hr := Lib.hid (hno.out hxy)
            have hxy2 : (x == y) = false := by simpa using hxy
            have hxy3 : (x != y) = true := by simpa using hxy
            clear hyes hno
            go_wp2
            go_quiet (fail)
            go_wp2
            go_ret
            exact ⟨by rw [hr.out]; rfl, Below.drewN (Below.drewN hB'.out m) nq⟩
        · have hr : Hid (decide (l1 = l2) = true) := Lib.hid (decide_eq_true (by
            have q1 := h1'.out.len
            have q2 := h2'.out.len
            apply List.ext_getElem (by omega)
            intro j g1 g2
            have := he.out j (by omega)
            simpa [List.getD, g1, g2] using this))
          clear he
          go_wp2
          go_ret
          exact ⟨by rw [hr.out]; rfl, Below.drewN hB'.out m⟩
    · have hr : decide (l1 = l2) = false := decide_eq_false (fun e => hm (by rw [h1.len, h2.len, e]))
      rw [hr]
      have hi1 : (m1 : Int) ≠ (m2 : Int) := by omega
      have hi2 : ((m1 : Int) != (m2 : Int)) = true := by simpa using hi1
      clear h1 h2 hr hm g1 g2 z1 z2 hB hW1 k1 k2
      go_enter Tryz.func29, Tryz.ntmps29
      go_wp2
      go_ret
      rw [← hW1'.out]
      exact ⟨rfl, hB'.out⟩
  · have e : decide (n1 = n2) = false := decide_eq_false hn
    rw [e, Bool.false_and]
    have e2 : (n1 != n2) = true := by simpa using hn
    clear e h1 h2 g1 g2 z1 z2 hB hW1 k1 k2
    go_enter Tryz.func29, Tryz.ntmps29
    go_wp2
    go_ret
    rw [← hW1'.out]
    exact ⟨rfl, hB'.out⟩

/- What is closed stays so. -/
theorem clipL_fix {n : Nat} {D : List Int} (hl : D.length = (n + 1) * (n + 1)) (hc : Closed n (mat n D)) (hw : ∀ i j, i ≤ n → j ≤ n → mat n D i j ≤ widestF i j) : clipL n D = D := by
  refine mat_ext (clip_len _ _) hl (fun i j hi hj => ?_)
  unfold clipL
  rw [mat_matL _ hi hj]
  unfold clipF
  have h1 := hw i j hi hj
  have h2 := hw j i hj hi
  have h3 := hc.tri i i j hi hi hj
  rw [hc.zero i hi] at h3
  have h4 := widestF_le j i
  omega
theorem closedL_fix {n : Nat} {D : List Int} (hl : D.length = (n + 1) * (n + 1)) (hc : Closed n (mat n D)) (hw : ∀ i j, i ≤ n → j ≤ n → mat n D i j ≤ widestF i j) : closedL n D = D := by
  have hf := clipL_fix hl hc hw
  obtain ⟨h1, h2⟩ := closedL_max (M := D) hc (by rw [hf]; exact fun i j _ _ => Int.le_refl _)
  obtain ⟨h3, h4, h5⟩ := closedL_is (closedL_ne h1)
  rw [hf] at h5
  exact mat_ext h3 hl (fun i j hi hj => Int.le_antisymm (h5 i j hi hj) (h2 i j hi hj))
theorem closedL_widest {n : Nat} {M : List Int} (h : closedL n M ≠ []) {i j : Nat} (hi : i ≤ n) (hj : j ≤ n) : mat n (closedL n M) i j ≤ widestF i j := by
  obtain ⟨h3, h4, h5⟩ := closedL_is h
  have := h5 i j hi hj
  unfold clipL at this
  rw [mat_matL _ hi hj] at this
  have := widestF_le i j
  unfold clipF at *
  omega
theorem closedL_again {n : Nat} {M : List Int} (h : closedL n M ≠ []) : closedL n (closedL n M) = closedL n M := by
  obtain ⟨h3, h4, h5⟩ := closedL_is h
  exact closedL_fix h3 h4 (fun i j hi hj => closedL_widest h hi hj)
theorem widest_closed (n : Nat) : Closed n (mat n (allL n)) := by
  constructor
  · intro i hi
    unfold allL
    rw [mat_matL _ hi hi]
    unfold widestF
    rw [if_pos rfl]
  · intro i j k hi hj hk
    unfold allL
    rw [mat_matL _ hi hj, mat_matL _ hi hk, mat_matL _ hk hj]
    unfold widestF
    split <;> split <;> split <;> (try split) <;> (try split) <;> (try split) <;> omega
theorem all_closed (n : Nat) : closedL n (allL n) = allL n := closedL_fix (matL_len _ _) (widest_closed n) (fun i j hi hj => by unfold allL; rw [mat_matL _ hi hj]; exact Int.le_refl _)
theorem all_of (n : Nat) : closedL n (List.replicate (sz n) 4398046511104) = allL n := by
  have h1 : clipL n (List.replicate (sz n) 4398046511104) = clipL n (allL n) := by
    refine mat_ext (clip_len _ _) (clip_len _ _) (fun i j hi hj => ?_)
    unfold clipL
    rw [mat_matL _ hi hj, mat_matL _ hi hj]
    unfold clipF
    have h2 : mat n (List.replicate (sz n) 4398046511104) i j = 4398046511104 := by
      have := place_lt hi hj
      unfold mat sz
      simp [List.getD, this]
    have h3 : mat n (allL n) i j = widestF i j := mat_matL _ hi hj
    have h4 := widestF_le i j
    rw [h2, h3]
    omega
  unfold closedL
  rw [h1]
  exact all_closed n
theorem sees_other {k : IntKind} {B : Nat} {w : World} {a : Option Addr} {l : List Int} (h : Sees k B w a l) (g : Nat) (hg : ∀ p, a = some p → g ≠ p.block) (i : Nat) (v : Value) : Sees k B (w.setCell ⟨g, i, none⟩ v) a l := by
  rcases h with h | ⟨b, off, rfl, hB, hc⟩
  · exact .inl h
  · refine .inr ⟨b, off, rfl, hB, fun j hj => ?_⟩
    have hne : (⟨b, off + j, none⟩ : Addr).block ≠ g := fun e => hg _ rfl e.symm
    have := World.cell?_of_block (w := w) (w' := w.setCell ⟨g, i, none⟩ v) (a := ⟨b, off + j, none⟩) (Below.heap_setCell w ⟨g, i, none⟩ v b hne)
    rw [this]; exact hc j hj
set_option maxRecDepth 100000 in
theorem rall_any (n : Nat) (hn : n ≤ 8) (w : World) : Calls Tryz.prog 46 #[.int .i64 n] w (ZoneS n (allL n) w) := by
  obtain ⟨i0, hi, hz0, hz1, hz2⟩ := info_parts infoInt
  obtain ⟨W1, hW1⟩ : ∃ W1, W1 = w.alloc (.cells #[.int .i64 0, .slice none 0 0] 24) := ⟨_, rfl⟩
  obtain ⟨hB, hz⟩ : Below w.heap.size w W1 ∧ ZH W1 w.heap.size (.int .i64 0) (.slice none 0 0) := by rw [hW1]; exact zone_new
  have hrc := Lib.hid (fun a c W (h : Sees .i64 W.heap.size W a (List.replicate (sz n) 4398046511104)) => rclose_any n hn a (List.replicate (sz n) 4398046511104) (sz n) c (by simp) rfl W h)
  rw [all_of] at hrc
  have hB' := Lib.hid hB
  have hz' := Lib.hid hz
  have hW1' := Lib.hid hW1
  have hs81 := sz_le hn
  have hni : (n : Int) ≤ 8 := by omega
  have hw1 : IntKind.i64.wrap ((n : Int) + 1) = (n : Int) + 1 := wrap_small (by omega) (by omega)
  have hw2 : IntKind.i64.wrap (((n : Int) + 1) * ((n : Int) + 1)) = (sz n : Nat) := by rw [sz_int]; exact wrap_small (by omega) (by omega)
  clear hW1 hB hz
  generalize allL n = R at *
  generalize sz n = s at *
  go_enter Tryz.func46, Tryz.ntmps46
  go_wp2
  rw [← hW1'.out]
  go_loopw [3, 4] (fun v x wr => ∃ k : Nat, k ≤ s ∧ x = .int .i64 k ∧ Hid (wr.ownsRow W1.heap.size 3 1 v (List.replicate k (4398046511104 : Int)).length (nums .i64 (List.replicate k 4398046511104))) ∧ Hid (Below W1.heap.size W1 wr)) (fun _ x _ => s - (intOf x).toNat)
  case atStart => exact ⟨0, by omega, rfl, Lib.hid ⟨rfl, .inl ⟨rfl, rfl⟩⟩, Lib.hid (Below.refl _ _)⟩
  case round =>
    obtain ⟨k, hk, rfl, hown, hb⟩ := hrel
    by_cases hlt : k < s
    · have hki : (k : Int) < (s : Int) := by omega
      go_wp2_with (at_builtin; refine wpList_append1 _ rfl _ _ 22 rfl W1 3 i0 (.int .i64 0) 8 Tryz.underlying22 hi hz0 hz1 hz2 rfl .i64 4398046511104 _ _ hown.out hb.out rfl rfl (by simp; omega) (by omega) ?_; intro v' w' hown2 hb2; have hown2' := Lib.hid hown2; have hb2' := Lib.hid hb2; clear hown2 hb2)
      go_roundw
      case rel => exact ⟨k + 1, by omega, by go_num, by rw [List.replicate_succ']; exact hown2', hb2'⟩
      case measure => simp [intOf]; omega
    · have hke : k = s := by omega
      subst hke
      obtain ⟨a, c, rfl, -, hs⟩ := sees_own hown.out
      have hcall := Lib.hid (hrc.out a c wr hs)
      have hb' := Lib.hid hb.out
      have hz3 := hz'.out.below hb.out hz'.out.lt
      clear hown hb hs hrc
      simp only [List.length_replicate]
      go_wp2_with fail
      refine hcall.out.mono ?_
      rintro e w5 ⟨a5, c5, rfl, hc5, s5, b5, nw5⟩
      have hz5 := hz3.below b5 hz3.lt
      have k0 := hz5.cell 0
      have k1 := hz5.cell 1
      have f0 := hz5.free 0
      have f1 := hz5.free 1
      have hfin : Hid (ZH ((w5.setCell ⟨w.heap.size, 0, none⟩ (.int .i64 n)).setCell ⟨w.heap.size, 1, none⟩ (.slice a5 R.length c5)) w.heap.size (.int .i64 n) (.slice a5 R.length c5)) := Lib.hid (zh_set hz5 _ _)
      have hout : Hid (ZoneS n R w (.returned (.agg #[.int .i64 n, .slice a5 R.length c5])) ((w5.setCell ⟨w.heap.size, 0, none⟩ (.int .i64 n)).setCell ⟨w.heap.size, 1, none⟩ (.slice a5 R.length c5))) := Lib.hid (by
        have hne : ∀ p, a5 = some p → w.heap.size ≠ p.block := fun p hp => by have h1 := nw5 p hp; have h2 := hb'.out.size; have h3 := hz'.out.lt; omega
        have hbb : Below w.heap.size w w5 := (hB'.out.trans (hb'.out.mono hB'.out.size)).trans (b5.mono (by have h2 := hb'.out.size; have h3 := hB'.out.size; omega))
        refine ⟨a5, c5, rfl, hc5, ?_, (hbb.setCell (p := ⟨w.heap.size, 0, none⟩) (Nat.le_refl _) _).setCell (p := ⟨w.heap.size, 1, none⟩) (Nat.le_refl _) _, fun p hp => by have h1 := nw5 p hp; have h2 := hb'.out.size; have h3 := hB'.out.size; omega⟩
        have := sees_other (sees_other s5 w.heap.size hne 0 (.int .i64 n)) w.heap.size hne 1 (.slice a5 R.length c5)
        simpa using this)
      clear hz3 hz5 s5 b5
      go_wp2
      exact zone_ret hfin.out hout.out _ _ 2 rfl rfl rfl
end Go.Proofs.YtplgmmjppmpnoaaGreatDoor
