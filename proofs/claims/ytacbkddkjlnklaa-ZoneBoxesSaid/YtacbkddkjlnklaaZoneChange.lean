/- Zones changed: change. (Written by gen-zone-change.py.) -/
import Derived.Test.YtacbkddkjlnklaaZoneOwn
namespace Go.Proofs.Ytacbkddkjlnklaa
open Go.RowKit
set_option linter.unusedVariables false
set_option linter.unusedSimpArgs false

/-- What change has in hand: the zone, the numbers, the answer's block. -/
structure Cg (w W : World) (B n : Nat) (x y : Value) (i j c : Int) : Prop where
  bl : Below w.heap.size w W
  sz : B ≤ W.heap.size
  zb : ZH W w.heap.size x y
  wb : Holds W (w.heap.size + 1) 72 #[.int .i64 i, .int .i64 j, .int .i64 c]
  rb : ZH W (w.heap.size + 1 + 1) (.int .i64 0) (.slice none 0 0)
theorem Cg.on {w W W' : World} {B n : Nat} {x y : Value} {i j c : Int} (h : Cg w W B n x y i j c) (hb : Below W.heap.size W W') : Cg w W' B n x y i j c := ⟨h.bl.trans (hb.mono h.bl.size), Nat.le_trans h.sz hb.size, h.zb.below hb h.zb.lt, h.wb.below hb h.wb.lt, h.rb.below hb h.rb.lt⟩
theorem Cg.onE {w W W' : World} {B n g : Nat} {x y : Value} {i j c : Int} (h : Cg w W B n x y i j c) (hB : w.heap.size + 3 ≤ B) (hg : B ≤ g) (hb : BelowE [g] W.heap.size W W') : Cg w W' B n x y i j c :=
  ⟨h.bl.trans (BelowE.none ((hb.mono h.bl.size).less (by intro x hx hlt; simp at hx; omega))), Nat.le_trans h.sz hb.size, h.zb.belowE hb h.zb.lt (by simp; omega), h.wb.belowE hb h.wb.lt (by simp; omega), h.rb.belowE hb h.rb.lt (by simp; omega)⟩
theorem Cg.set {w W : World} {B n : Nat} {x y : Value} {i j c : Int} (h : Cg w W B n x y i j c) (u v : Value) : Cg w ((W.setCell ⟨w.heap.size, 0, none⟩ u).setCell ⟨w.heap.size, 1, none⟩ v) B n u v i j c :=
  ⟨(h.bl.setCell (p := ⟨w.heap.size, 0, none⟩) (Nat.le_refl _) _).setCell (p := ⟨w.heap.size, 1, none⟩) (Nat.le_refl _) _, by simpa using h.sz, zh_set h.zb _ _, (h.wb.far (p := ⟨w.heap.size, 0, none⟩) (by simp) _).far (p := ⟨w.heap.size, 1, none⟩) (by simp) _, (h.rb.far (p := ⟨w.heap.size, 0, none⟩) (by simp; omega) _).far (p := ⟨w.heap.size, 1, none⟩) (by simp; omega) _⟩
theorem own_set {w : World} {base g : Nat} {e : TypeId} {m n c : Nat} {a : Option Addr} {xs : List Value} (h : w.ownsRow base e 1 (.slice a m c) n xs) (hg : g < base) (u v : Value) : ((w.setCell ⟨g, 0, none⟩ u).setCell ⟨g, 1, none⟩ v).ownsRow base e 1 (.slice a m c) n xs := by
  have hE : BelowE [g] w.heap.size w ((w.setCell ⟨g, 0, none⟩ u).setCell ⟨g, 1, none⟩ v) := ((BelowE.refl _ _ _).setIn (p := ⟨g, 0, none⟩) (by simp) _).setIn (p := ⟨g, 1, none⟩) (by simp) _
  exact own_belowE h hE (fun k hk => by have := (h.lt k hk).1; simp only [List.mem_singleton]; omega)
/-- One step, and what is closed of it. -/
def stepL (n : Nat) (f : List Int → List Int) (l : List Int) : List Int := if l = [] then [] else closedL n (f l)
theorem stepL_small (n : Nat) (hn : n ≤ 8) (f : List Int → List Int) (l : List Int) : (stepL n f l).length ≤ 81 := by
  unfold stepL
  split
  · simp
  · exact closed_small hn _
theorem stepL_isz {n : Nat} (hn : n ≤ 8) (f : List Int → List Int) (l : List Int) : IsZ n (stepL n f l) := by
  refine ⟨hn, ?_⟩
  unfold stepL
  split
  · exact .inl rfl
  · by_cases h : closedL n (f l) = []
    · exact .inl h
    · exact .inr (closed_full hn h)
set_option maxRecDepth 100000 in
set_option maxHeartbeats 4000000 in
theorem change_lim (n : Nat) (hn : n ≤ 8) (l : List Int) (hz : IsZ n l) (a : Option Addr) (m ca : Nat) (i j c : Int) (hs0 : ∀ (L : List Int) (g cap base : Nat) (W : World), Full n L → L.length = sz n → W.ownsRow base 3 1 (.slice (some ⟨g, 0, none⟩) (sz n) cap) (sz n) (nums .i64 L) → Calls Try.prog 57 #[.agg #[.int .i64 n, .slice (some ⟨g, 0, none⟩) (sz n) cap], .agg #[.int .i64 i, .int .i64 j, .int .i64 c]] W (MatS (sz n) g cap base (limL n L i.toNat j.toNat c) W)) (w : World) (h : SL w a m ca l) (gs : Nat) (hgs : gs < w.heap.size) (hcs : ∀ W, Below w.heap.size w W → W.cell? ⟨gs, 0, none⟩ = some (.func (.func 57) #[] #[])) :
    Calls Try.prog 56 #[.agg #[.int .i64 n, .slice a m ca], .agg #[.int .i64 i, .int .i64 j, .int .i64 c], .slice (some ⟨gs, 0, none⟩) 1 1] w (ZoneE n (stepL n (fun l => limL n l i.toNat j.toNat c) l) 0 w) := by
  obtain ⟨W1, hW1⟩ : ∃ W1, W1 = ((w.alloc (.cells #[.int .i64 n, .slice a m ca] 24)).alloc (.cells #[.int .i64 i, .int .i64 j, .int .i64 c] 72)).alloc (.cells #[.int .i64 0, .slice none 0 0] 24) := ⟨_, rfl⟩
  have hsz1 : W1.heap.size = w.heap.size + 3 := by rw [hW1]; simp
  have X1 : Cg w W1 (w.heap.size + 3) n (.int .i64 n) (.slice a m ca) i j c := by
    rw [hW1]
    refine ⟨(box2_below _ _ _ _ _).alloc (by simp; omega) _, by simp, ((Holds.new w _ _).alloc _).alloc _, ?_, ?_⟩
    · have := (Holds.new (w.alloc (.cells #[.int .i64 n, .slice a m ca] 24)) 72 #[.int .i64 i, .int .i64 j, .int .i64 c]).alloc (.cells #[.int .i64 0, .slice none 0 0] 24)
      simpa using this
    · have := Holds.new ((w.alloc (.cells #[.int .i64 n, .slice a m ca] 24)).alloc (.cells #[.int .i64 i, .int .i64 j, .int .i64 c] 72)) 24 #[.int .i64 0, .slice none 0 0]
      simpa using this
  have hsm := hz.small
  have q1 := Lib.hid (zclone_own n a m ca l (by have := h.len; omega) W1 (h.below X1.bl))
  have hcl := Lib.hid (fun (L : List Int) (W : World) (g cap : Nat) (hL : L.length = sz n) (hs : Sees .i64 W.heap.size W (some ⟨g, 0, none⟩) L) => dclose_own n hn (some ⟨g, 0, none⟩) L (sz n) cap hL.symm rfl W hs)
  have hem := Lib.hid (fun (L : List Int) (W : World) (b : Option Addr) (cb : Nat) (hs : SL W b L.length cb L) => zempty_any n b L.length cb L W hs)
  have hW1' := Lib.hid hW1
  have X1' := Lib.hid X1
  have hn' := Lib.hid hn
  have hgs' := Lib.hid hgs
  have hcs' := Lib.hid hcs
  have hz' := Lib.hid hz
  have hsz1' := Lib.hid hsz1
  have hfinal : Hid (∀ (L : List Int) (W : World) (b : Option Addr) (cb : Nat), Cg w W (w.heap.size + 3) n (.int .i64 n) (.slice b L.length cb) i j c → W.ownsRow (w.heap.size + 3) 3 1 (.slice b L.length cb) L.length (nums .i64 L) →
      ZH ((W.setCell ⟨w.heap.size + 1 + 1, 0, none⟩ (.int .i64 n)).setCell ⟨w.heap.size + 1 + 1, 1, none⟩ (.slice b L.length cb)) (w.heap.size + 1 + 1) (.int .i64 n) (.slice b L.length cb) ∧ ZoneE n L 0 w (.returned (.tuple #[.agg #[.int .i64 n, .slice b L.length cb], .int .i64 0])) ((W.setCell ⟨w.heap.size + 1 + 1, 0, none⟩ (.int .i64 n)).setCell ⟨w.heap.size + 1 + 1, 1, none⟩ (.slice b L.length cb))) := Lib.hid (fun L W b cb hC hO => by
    have hO2 := own_set hO (g := w.heap.size + 1 + 1) (by omega) (.int .i64 n) (.slice b L.length cb)
    obtain ⟨b2, c2, hv, -, ss⟩ := sees_own hO2
    injection hv with e1 _ e3
    subst e1 e3
    exact ⟨zh_set hC.rb _ _, b, cb, rfl, own_cap hO, ss, (hC.bl.setCell (p := ⟨w.heap.size + 1 + 1, 0, none⟩) (by show _ ≤ _ + 1 + 1; omega) _).setCell (p := ⟨w.heap.size + 1 + 1, 1, none⟩) (by show _ ≤ _ + 1 + 1; omega) _, New.own hO (by omega)⟩)
  have hs0' := Lib.hid hs0
  obtain ⟨Q, hQ⟩ : ∃ Q : Nat → List Int, Q 0 = l ∧ Q 1 = (stepL n (fun l => limL n l i.toNat j.toNat c) l) := ⟨fun k => match k with | 0 => l | _ => (stepL n (fun l => limL n l i.toNat j.toNat c) l), rfl, rfl⟩
  have hQ0 : Hid (Q 0 = l) := Lib.hid hQ.1
  have hQ1 : Hid (Q 1 = if Q 0 = [] then [] else closedL n (limL n (Q 0) i.toNat j.toNat c)) := Lib.hid (by rw [hQ.2, hQ.1]; rfl)
  have hZ : Hid (∀ k, k ≤ 1 → IsZ n (Q k)) := Lib.hid (fun k hk => by
    match k, hk with
    | 0, _ => rw [hQ.1]; exact hz
    | 1, _ => rw [hQ.2]; exact stepL_isz hn _ _
    | k + 2, hk => omega)
  have hres : Hid ((stepL n (fun l => limL n l i.toNat j.toNat c) l) = Q 1) := Lib.hid hQ.2.symm
  rw [hres.out]
  clear hW1 X1 h hgs hcs hz hsz1 hn hQ hs0 hres
  go_enter Try.func56, Try.ntmps56
  go_wp2_with fail
  rw [← hW1'.out]
  refine q1.out.mono ?_
  rintro e w2 ⟨a2, c2, rfl, o2, b2⟩
  have C2 := X1'.out.on b2
  have z0 := C2.zb.cell 0
  have z1 := C2.zb.cell 1
  have f0 := C2.zb.free 0
  have f1 := C2.zb.free 1
  have C3 := Lib.hid (C2.set (.int .i64 n) (.slice a2 l.length c2))
  have O3 := Lib.hid (own_set (own_from (B := w.heap.size + 3) o2 (fun k hk => by have := (o2.lt k hk).1; have := hsz1'.out; omega)) (g := w.heap.size) (by omega) (.int .i64 n) (.slice a2 l.length c2))
  rw [← hQ0.out] at C3 O3
  rw [← hQ0.out]
  clear C2 o2 b2 q1
  generalize hG : ((w2.setCell ⟨w.heap.size, 0, none⟩ (.int .i64 n)).setCell ⟨w.heap.size, 1, none⟩ (.slice a2 (Q 0).length c2)) = w3 at C3 O3
  have hG' := Lib.hid hG
  clear hG
  go_wp2
  rw [hG'.out]
  clear z0 z1 f0 f1 hG'
  go_loopw [14] (fun x wr => ∃ (k : Nat) (b : Option Addr) (cb : Nat), k ≤ 1 ∧ x = .int .i64 k ∧ Hid (Cg w wr (w.heap.size + 3) n (.int .i64 n) (.slice b (Q k).length cb) i j c) ∧ Hid (wr.ownsRow (w.heap.size + 3) 3 1 (.slice b (Q k).length cb) (Q k).length (nums .i64 (Q k)))) (fun x _ => 1 - (intOf x).toNat)
  case atStart => exact ⟨0, a2, c2, by omega, rfl, C3, O3⟩
  case round =>
    clear C3 O3
    obtain ⟨k, b, cb, hk, rfl, hC, hO⟩ := hrel
    by_cases hlt : k < 1
    · have hki : (k : Int) < 1 := by omega
      obtain rfl : k = 0 := by omega
      have hcell := (hcs'.out wr hC.out.bl)
      obtain ⟨b', cb', hv, -, ss⟩ := sees_own hO.out
      injection hv with e1 _ e3
      subst e1 e3
      have hcap := own_cap hO.out
      have hsmk := (hZ.out 0 (by omega)).small
      have S : Hid (SL wr b (Q 0).length cb (Q 0)) := Lib.hid ⟨rfl, hcap, by omega, ss⟩
      have z0 := hC.out.zb.cell 0
      have z1 := hC.out.zb.cell 1
      have p1 := Lib.hid (hem.out (Q 0) wr b cb S.out)
      clear ss hcap
      by_cases hnil : Q 0 = []
      · have hend : Hid (Q 1 = Q 0) := Lib.hid (by rw [hQ1.out, if_pos hnil, hnil])
        rw [decide_eq_true hnil] at p1
        clear hnil
        go_wp2_with fail
        refine p1.out.mono ?_
        rintro e w5 ⟨rfl, b5⟩
        have C5 := hC.out.on b5
        have O5 := own_below hO.out b5
        have y0 := C5.zb.cell 0
        have y1 := C5.zb.cell 1
        have r0 := C5.rb.cell 0
        have r1 := C5.rb.cell 1
        have g0 := C5.rb.free 0
        have g1 := C5.rb.free 1
        have hfin := Lib.hid (hfinal.out _ _ _ _ C5 O5)
        clear C5 O5 b5 p1 z0 z1
        go_wp2
        rw [hend.out]
        exact zone_ret2 hfin.out.1 hfin.out.2 _ _ 6 7 rfl rfl rfl rfl
      · have hF := ((hZ.out 0 (by omega)).2).resolve_left hnil
        rw [decide_eq_false hnil] at p1
        have hlk := hF.len
        obtain ⟨g, cap, hv, hg⟩ := own_some hO.out (by rw [hlk]; exact sz_pos n)
        injection hv with e1 _ e3
        subst e1 e3
        have hnx : Hid (closedL n (limL n (Q 0) i.toNat j.toNat c) = Q 1) := Lib.hid (by rw [hQ1.out, if_neg hnil])
        rw [hlk] at p1 z1 S hO hC
        try rw [hlk]
        have hst := Lib.hid (fun W hW => hs0'.out (Q 0) g cb (w.heap.size + 3) W hF hlk hW)
        have hflen : Hid ((limL n (Q 0) i.toNat j.toNat c).length = sz n) := Lib.hid (by unfold limL; rw [List.length_set]; exact hlk)
        have hcl2 := Lib.hid (fun W cap hs => hcl.out (limL n (Q 0) i.toNat j.toNat c) W g cap hflen.out hs)
        rw [hnx.out] at hcl2
        go_wp2_with fail
        refine p1.out.mono ?_
        rintro e w5 ⟨rfl, b5⟩
        have C5 := Lib.hid (hC.out.on b5)
        have O5 := Lib.hid (own_below hO.out b5)
        clear b5 p1 z0 z1 hcell
        have z0 := C5.out.zb.cell 0
        have z1 := C5.out.zb.cell 1
        have w0 := C5.out.wb.cell 0
        have w1 := C5.out.wb.cell 1
        have w2' := C5.out.wb.cell 2
        have p5 := Lib.hid (hst.out w5 O5.out)
        go_wp2_with fail
        refine p5.out.mono ?_
        rintro e w6 ⟨rfl, o6, b6⟩
        have C6 := Lib.hid (C5.out.onE (by omega) hg b6)
        obtain ⟨b7, c7, hv7, -, ss⟩ := sees_own o6
        have hlen6 := hflen.out
        rw [hlen6] at hv7
        injection hv7 with e1 _ e3
        subst e1 e3
        clear z0 z1 w0 w1 w2' b6 p5
        have z0 := C6.out.zb.cell 0
        have z1 := C6.out.zb.cell 1
        have p6 := Lib.hid (hcl2.out w6 cb ss)
        go_wp2_with fail
        refine p6.out.mono ?_
        rintro e w8 ⟨a8, c8, rfl, o8, b8⟩
        have C8 := C6.out.on b8
        have y0 := C8.zb.cell 0
        have y1 := C8.zb.cell 1
        have f0 := C8.zb.free 0
        have f1 := C8.zb.free 1
        have C9 := Lib.hid (C8.set (.int .i64 n) (.slice a8 (Q 1).length c8))
        have O9 := Lib.hid (own_set (own_from (B := w.heap.size + 3) o8 (fun kk hk => by have := (o8.lt kk hk).1; have := C6.out.sz; omega)) (g := w.heap.size) (by omega) (.int .i64 n) (.slice a8 (Q 1).length c8))
        clear C8 o8 b8 p6 z0 z1
        go_wp2
        go_roundw
        case rel => exact ⟨1, a8, c8, by omega, by go_num, C9, O9⟩
        case measure => simp [intOf]
    · have hke : k = 1 := by omega
      subst hke
      have y0 := hC.out.zb.cell 0
      have y1 := hC.out.zb.cell 1
      have r0 := hC.out.rb.cell 0
      have r1 := hC.out.rb.cell 1
      have g0 := hC.out.rb.free 0
      have g1 := hC.out.rb.free 1
      have hfin := Lib.hid (hfinal.out _ _ _ _ hC.out hO.out)
      go_wp2
      exact zone_ret2 hfin.out.1 hfin.out.2 _ _ 6 7 rfl rfl rfl rfl
set_option maxRecDepth 100000 in
set_option maxHeartbeats 4000000 in
theorem change_for (n : Nat) (hn : n ≤ 8) (l : List Int) (hz : IsZ n l) (a : Option Addr) (m ca : Nat) (i j c : Int) (hs0 : ∀ (L : List Int) (g cap base : Nat) (W : World), Full n L → L.length = sz n → W.ownsRow base 3 1 (.slice (some ⟨g, 0, none⟩) (sz n) cap) (sz n) (nums .i64 L) → Calls Try.prog 58 #[.agg #[.int .i64 n, .slice (some ⟨g, 0, none⟩) (sz n) cap], .agg #[.int .i64 i, .int .i64 j, .int .i64 c]] W (MatS (sz n) g cap base (forL n L i.toNat) W)) (w : World) (h : SL w a m ca l) (gs : Nat) (hgs : gs < w.heap.size) (hcs : ∀ W, Below w.heap.size w W → W.cell? ⟨gs, 0, none⟩ = some (.func (.func 58) #[] #[])) :
    Calls Try.prog 56 #[.agg #[.int .i64 n, .slice a m ca], .agg #[.int .i64 i, .int .i64 j, .int .i64 c], .slice (some ⟨gs, 0, none⟩) 1 1] w (ZoneE n (stepL n (fun l => forL n l i.toNat) l) 0 w) := by
  obtain ⟨W1, hW1⟩ : ∃ W1, W1 = ((w.alloc (.cells #[.int .i64 n, .slice a m ca] 24)).alloc (.cells #[.int .i64 i, .int .i64 j, .int .i64 c] 72)).alloc (.cells #[.int .i64 0, .slice none 0 0] 24) := ⟨_, rfl⟩
  have hsz1 : W1.heap.size = w.heap.size + 3 := by rw [hW1]; simp
  have X1 : Cg w W1 (w.heap.size + 3) n (.int .i64 n) (.slice a m ca) i j c := by
    rw [hW1]
    refine ⟨(box2_below _ _ _ _ _).alloc (by simp; omega) _, by simp, ((Holds.new w _ _).alloc _).alloc _, ?_, ?_⟩
    · have := (Holds.new (w.alloc (.cells #[.int .i64 n, .slice a m ca] 24)) 72 #[.int .i64 i, .int .i64 j, .int .i64 c]).alloc (.cells #[.int .i64 0, .slice none 0 0] 24)
      simpa using this
    · have := Holds.new ((w.alloc (.cells #[.int .i64 n, .slice a m ca] 24)).alloc (.cells #[.int .i64 i, .int .i64 j, .int .i64 c] 72)) 24 #[.int .i64 0, .slice none 0 0]
      simpa using this
  have hsm := hz.small
  have q1 := Lib.hid (zclone_own n a m ca l (by have := h.len; omega) W1 (h.below X1.bl))
  have hcl := Lib.hid (fun (L : List Int) (W : World) (g cap : Nat) (hL : L.length = sz n) (hs : Sees .i64 W.heap.size W (some ⟨g, 0, none⟩) L) => dclose_own n hn (some ⟨g, 0, none⟩) L (sz n) cap hL.symm rfl W hs)
  have hem := Lib.hid (fun (L : List Int) (W : World) (b : Option Addr) (cb : Nat) (hs : SL W b L.length cb L) => zempty_any n b L.length cb L W hs)
  have hW1' := Lib.hid hW1
  have X1' := Lib.hid X1
  have hn' := Lib.hid hn
  have hgs' := Lib.hid hgs
  have hcs' := Lib.hid hcs
  have hz' := Lib.hid hz
  have hsz1' := Lib.hid hsz1
  have hfinal : Hid (∀ (L : List Int) (W : World) (b : Option Addr) (cb : Nat), Cg w W (w.heap.size + 3) n (.int .i64 n) (.slice b L.length cb) i j c → W.ownsRow (w.heap.size + 3) 3 1 (.slice b L.length cb) L.length (nums .i64 L) →
      ZH ((W.setCell ⟨w.heap.size + 1 + 1, 0, none⟩ (.int .i64 n)).setCell ⟨w.heap.size + 1 + 1, 1, none⟩ (.slice b L.length cb)) (w.heap.size + 1 + 1) (.int .i64 n) (.slice b L.length cb) ∧ ZoneE n L 0 w (.returned (.tuple #[.agg #[.int .i64 n, .slice b L.length cb], .int .i64 0])) ((W.setCell ⟨w.heap.size + 1 + 1, 0, none⟩ (.int .i64 n)).setCell ⟨w.heap.size + 1 + 1, 1, none⟩ (.slice b L.length cb))) := Lib.hid (fun L W b cb hC hO => by
    have hO2 := own_set hO (g := w.heap.size + 1 + 1) (by omega) (.int .i64 n) (.slice b L.length cb)
    obtain ⟨b2, c2, hv, -, ss⟩ := sees_own hO2
    injection hv with e1 _ e3
    subst e1 e3
    exact ⟨zh_set hC.rb _ _, b, cb, rfl, own_cap hO, ss, (hC.bl.setCell (p := ⟨w.heap.size + 1 + 1, 0, none⟩) (by show _ ≤ _ + 1 + 1; omega) _).setCell (p := ⟨w.heap.size + 1 + 1, 1, none⟩) (by show _ ≤ _ + 1 + 1; omega) _, New.own hO (by omega)⟩)
  have hs0' := Lib.hid hs0
  obtain ⟨Q, hQ⟩ : ∃ Q : Nat → List Int, Q 0 = l ∧ Q 1 = (stepL n (fun l => forL n l i.toNat) l) := ⟨fun k => match k with | 0 => l | _ => (stepL n (fun l => forL n l i.toNat) l), rfl, rfl⟩
  have hQ0 : Hid (Q 0 = l) := Lib.hid hQ.1
  have hQ1 : Hid (Q 1 = if Q 0 = [] then [] else closedL n (forL n (Q 0) i.toNat)) := Lib.hid (by rw [hQ.2, hQ.1]; rfl)
  have hZ : Hid (∀ k, k ≤ 1 → IsZ n (Q k)) := Lib.hid (fun k hk => by
    match k, hk with
    | 0, _ => rw [hQ.1]; exact hz
    | 1, _ => rw [hQ.2]; exact stepL_isz hn _ _
    | k + 2, hk => omega)
  have hres : Hid ((stepL n (fun l => forL n l i.toNat) l) = Q 1) := Lib.hid hQ.2.symm
  rw [hres.out]
  clear hW1 X1 h hgs hcs hz hsz1 hn hQ hs0 hres
  go_enter Try.func56, Try.ntmps56
  go_wp2_with fail
  rw [← hW1'.out]
  refine q1.out.mono ?_
  rintro e w2 ⟨a2, c2, rfl, o2, b2⟩
  have C2 := X1'.out.on b2
  have z0 := C2.zb.cell 0
  have z1 := C2.zb.cell 1
  have f0 := C2.zb.free 0
  have f1 := C2.zb.free 1
  have C3 := Lib.hid (C2.set (.int .i64 n) (.slice a2 l.length c2))
  have O3 := Lib.hid (own_set (own_from (B := w.heap.size + 3) o2 (fun k hk => by have := (o2.lt k hk).1; have := hsz1'.out; omega)) (g := w.heap.size) (by omega) (.int .i64 n) (.slice a2 l.length c2))
  rw [← hQ0.out] at C3 O3
  rw [← hQ0.out]
  clear C2 o2 b2 q1
  generalize hG : ((w2.setCell ⟨w.heap.size, 0, none⟩ (.int .i64 n)).setCell ⟨w.heap.size, 1, none⟩ (.slice a2 (Q 0).length c2)) = w3 at C3 O3
  have hG' := Lib.hid hG
  clear hG
  go_wp2
  rw [hG'.out]
  clear z0 z1 f0 f1 hG'
  go_loopw [14] (fun x wr => ∃ (k : Nat) (b : Option Addr) (cb : Nat), k ≤ 1 ∧ x = .int .i64 k ∧ Hid (Cg w wr (w.heap.size + 3) n (.int .i64 n) (.slice b (Q k).length cb) i j c) ∧ Hid (wr.ownsRow (w.heap.size + 3) 3 1 (.slice b (Q k).length cb) (Q k).length (nums .i64 (Q k)))) (fun x _ => 1 - (intOf x).toNat)
  case atStart => exact ⟨0, a2, c2, by omega, rfl, C3, O3⟩
  case round =>
    clear C3 O3
    obtain ⟨k, b, cb, hk, rfl, hC, hO⟩ := hrel
    by_cases hlt : k < 1
    · have hki : (k : Int) < 1 := by omega
      obtain rfl : k = 0 := by omega
      have hcell := (hcs'.out wr hC.out.bl)
      obtain ⟨b', cb', hv, -, ss⟩ := sees_own hO.out
      injection hv with e1 _ e3
      subst e1 e3
      have hcap := own_cap hO.out
      have hsmk := (hZ.out 0 (by omega)).small
      have S : Hid (SL wr b (Q 0).length cb (Q 0)) := Lib.hid ⟨rfl, hcap, by omega, ss⟩
      have z0 := hC.out.zb.cell 0
      have z1 := hC.out.zb.cell 1
      have p1 := Lib.hid (hem.out (Q 0) wr b cb S.out)
      clear ss hcap
      by_cases hnil : Q 0 = []
      · have hend : Hid (Q 1 = Q 0) := Lib.hid (by rw [hQ1.out, if_pos hnil, hnil])
        rw [decide_eq_true hnil] at p1
        clear hnil
        go_wp2_with fail
        refine p1.out.mono ?_
        rintro e w5 ⟨rfl, b5⟩
        have C5 := hC.out.on b5
        have O5 := own_below hO.out b5
        have y0 := C5.zb.cell 0
        have y1 := C5.zb.cell 1
        have r0 := C5.rb.cell 0
        have r1 := C5.rb.cell 1
        have g0 := C5.rb.free 0
        have g1 := C5.rb.free 1
        have hfin := Lib.hid (hfinal.out _ _ _ _ C5 O5)
        clear C5 O5 b5 p1 z0 z1
        go_wp2
        rw [hend.out]
        exact zone_ret2 hfin.out.1 hfin.out.2 _ _ 6 7 rfl rfl rfl rfl
      · have hF := ((hZ.out 0 (by omega)).2).resolve_left hnil
        rw [decide_eq_false hnil] at p1
        have hlk := hF.len
        obtain ⟨g, cap, hv, hg⟩ := own_some hO.out (by rw [hlk]; exact sz_pos n)
        injection hv with e1 _ e3
        subst e1 e3
        have hnx : Hid (closedL n (forL n (Q 0) i.toNat) = Q 1) := Lib.hid (by rw [hQ1.out, if_neg hnil])
        rw [hlk] at p1 z1 S hO hC
        try rw [hlk]
        have hst := Lib.hid (fun W hW => hs0'.out (Q 0) g cb (w.heap.size + 3) W hF hlk hW)
        have hflen : Hid ((forL n (Q 0) i.toNat).length = sz n) := Lib.hid (by unfold forL; rw [othK_len]; exact hlk)
        have hcl2 := Lib.hid (fun W cap hs => hcl.out (forL n (Q 0) i.toNat) W g cap hflen.out hs)
        rw [hnx.out] at hcl2
        go_wp2_with fail
        refine p1.out.mono ?_
        rintro e w5 ⟨rfl, b5⟩
        have C5 := Lib.hid (hC.out.on b5)
        have O5 := Lib.hid (own_below hO.out b5)
        clear b5 p1 z0 z1 hcell
        have z0 := C5.out.zb.cell 0
        have z1 := C5.out.zb.cell 1
        have w0 := C5.out.wb.cell 0
        have w1 := C5.out.wb.cell 1
        have w2' := C5.out.wb.cell 2
        have p5 := Lib.hid (hst.out w5 O5.out)
        go_wp2_with fail
        refine p5.out.mono ?_
        rintro e w6 ⟨rfl, o6, b6⟩
        have C6 := Lib.hid (C5.out.onE (by omega) hg b6)
        obtain ⟨b7, c7, hv7, -, ss⟩ := sees_own o6
        have hlen6 := hflen.out
        rw [hlen6] at hv7
        injection hv7 with e1 _ e3
        subst e1 e3
        clear z0 z1 w0 w1 w2' b6 p5
        have z0 := C6.out.zb.cell 0
        have z1 := C6.out.zb.cell 1
        have p6 := Lib.hid (hcl2.out w6 cb ss)
        go_wp2_with fail
        refine p6.out.mono ?_
        rintro e w8 ⟨a8, c8, rfl, o8, b8⟩
        have C8 := C6.out.on b8
        have y0 := C8.zb.cell 0
        have y1 := C8.zb.cell 1
        have f0 := C8.zb.free 0
        have f1 := C8.zb.free 1
        have C9 := Lib.hid (C8.set (.int .i64 n) (.slice a8 (Q 1).length c8))
        have O9 := Lib.hid (own_set (own_from (B := w.heap.size + 3) o8 (fun kk hk => by have := (o8.lt kk hk).1; have := C6.out.sz; omega)) (g := w.heap.size) (by omega) (.int .i64 n) (.slice a8 (Q 1).length c8))
        clear C8 o8 b8 p6 z0 z1
        go_wp2
        go_roundw
        case rel => exact ⟨1, a8, c8, by omega, by go_num, C9, O9⟩
        case measure => simp [intOf]
    · have hke : k = 1 := by omega
      subst hke
      have y0 := hC.out.zb.cell 0
      have y1 := hC.out.zb.cell 1
      have r0 := hC.out.rb.cell 0
      have r1 := hC.out.rb.cell 1
      have g0 := hC.out.rb.free 0
      have g1 := hC.out.rb.free 1
      have hfin := Lib.hid (hfinal.out _ _ _ _ hC.out hO.out)
      go_wp2
      exact zone_ret2 hfin.out.1 hfin.out.2 _ _ 6 7 rfl rfl rfl rfl
set_option maxRecDepth 100000 in
set_option maxHeartbeats 4000000 in
theorem change_mov (n : Nat) (hn : n ≤ 8) (l : List Int) (hz : IsZ n l) (a : Option Addr) (m ca : Nat) (i j c : Int) (hs0 : ∀ (L : List Int) (g cap base : Nat) (W : World), Full n L → L.length = sz n → W.ownsRow base 3 1 (.slice (some ⟨g, 0, none⟩) (sz n) cap) (sz n) (nums .i64 L) → Calls Try.prog 59 #[.agg #[.int .i64 n, .slice (some ⟨g, 0, none⟩) (sz n) cap], .agg #[.int .i64 i, .int .i64 j, .int .i64 c]] W (MatS (sz n) g cap base (movL n L i.toNat c) W)) (w : World) (h : SL w a m ca l) (gs : Nat) (hgs : gs < w.heap.size) (hcs : ∀ W, Below w.heap.size w W → W.cell? ⟨gs, 0, none⟩ = some (.func (.func 59) #[] #[])) :
    Calls Try.prog 56 #[.agg #[.int .i64 n, .slice a m ca], .agg #[.int .i64 i, .int .i64 j, .int .i64 c], .slice (some ⟨gs, 0, none⟩) 1 1] w (ZoneE n (stepL n (fun l => movL n l i.toNat c) l) 0 w) := by
  obtain ⟨W1, hW1⟩ : ∃ W1, W1 = ((w.alloc (.cells #[.int .i64 n, .slice a m ca] 24)).alloc (.cells #[.int .i64 i, .int .i64 j, .int .i64 c] 72)).alloc (.cells #[.int .i64 0, .slice none 0 0] 24) := ⟨_, rfl⟩
  have hsz1 : W1.heap.size = w.heap.size + 3 := by rw [hW1]; simp
  have X1 : Cg w W1 (w.heap.size + 3) n (.int .i64 n) (.slice a m ca) i j c := by
    rw [hW1]
    refine ⟨(box2_below _ _ _ _ _).alloc (by simp; omega) _, by simp, ((Holds.new w _ _).alloc _).alloc _, ?_, ?_⟩
    · have := (Holds.new (w.alloc (.cells #[.int .i64 n, .slice a m ca] 24)) 72 #[.int .i64 i, .int .i64 j, .int .i64 c]).alloc (.cells #[.int .i64 0, .slice none 0 0] 24)
      simpa using this
    · have := Holds.new ((w.alloc (.cells #[.int .i64 n, .slice a m ca] 24)).alloc (.cells #[.int .i64 i, .int .i64 j, .int .i64 c] 72)) 24 #[.int .i64 0, .slice none 0 0]
      simpa using this
  have hsm := hz.small
  have q1 := Lib.hid (zclone_own n a m ca l (by have := h.len; omega) W1 (h.below X1.bl))
  have hcl := Lib.hid (fun (L : List Int) (W : World) (g cap : Nat) (hL : L.length = sz n) (hs : Sees .i64 W.heap.size W (some ⟨g, 0, none⟩) L) => dclose_own n hn (some ⟨g, 0, none⟩) L (sz n) cap hL.symm rfl W hs)
  have hem := Lib.hid (fun (L : List Int) (W : World) (b : Option Addr) (cb : Nat) (hs : SL W b L.length cb L) => zempty_any n b L.length cb L W hs)
  have hW1' := Lib.hid hW1
  have X1' := Lib.hid X1
  have hn' := Lib.hid hn
  have hgs' := Lib.hid hgs
  have hcs' := Lib.hid hcs
  have hz' := Lib.hid hz
  have hsz1' := Lib.hid hsz1
  have hfinal : Hid (∀ (L : List Int) (W : World) (b : Option Addr) (cb : Nat), Cg w W (w.heap.size + 3) n (.int .i64 n) (.slice b L.length cb) i j c → W.ownsRow (w.heap.size + 3) 3 1 (.slice b L.length cb) L.length (nums .i64 L) →
      ZH ((W.setCell ⟨w.heap.size + 1 + 1, 0, none⟩ (.int .i64 n)).setCell ⟨w.heap.size + 1 + 1, 1, none⟩ (.slice b L.length cb)) (w.heap.size + 1 + 1) (.int .i64 n) (.slice b L.length cb) ∧ ZoneE n L 0 w (.returned (.tuple #[.agg #[.int .i64 n, .slice b L.length cb], .int .i64 0])) ((W.setCell ⟨w.heap.size + 1 + 1, 0, none⟩ (.int .i64 n)).setCell ⟨w.heap.size + 1 + 1, 1, none⟩ (.slice b L.length cb))) := Lib.hid (fun L W b cb hC hO => by
    have hO2 := own_set hO (g := w.heap.size + 1 + 1) (by omega) (.int .i64 n) (.slice b L.length cb)
    obtain ⟨b2, c2, hv, -, ss⟩ := sees_own hO2
    injection hv with e1 _ e3
    subst e1 e3
    exact ⟨zh_set hC.rb _ _, b, cb, rfl, own_cap hO, ss, (hC.bl.setCell (p := ⟨w.heap.size + 1 + 1, 0, none⟩) (by show _ ≤ _ + 1 + 1; omega) _).setCell (p := ⟨w.heap.size + 1 + 1, 1, none⟩) (by show _ ≤ _ + 1 + 1; omega) _, New.own hO (by omega)⟩)
  have hs0' := Lib.hid hs0
  obtain ⟨Q, hQ⟩ : ∃ Q : Nat → List Int, Q 0 = l ∧ Q 1 = (stepL n (fun l => movL n l i.toNat c) l) := ⟨fun k => match k with | 0 => l | _ => (stepL n (fun l => movL n l i.toNat c) l), rfl, rfl⟩
  have hQ0 : Hid (Q 0 = l) := Lib.hid hQ.1
  have hQ1 : Hid (Q 1 = if Q 0 = [] then [] else closedL n (movL n (Q 0) i.toNat c)) := Lib.hid (by rw [hQ.2, hQ.1]; rfl)
  have hZ : Hid (∀ k, k ≤ 1 → IsZ n (Q k)) := Lib.hid (fun k hk => by
    match k, hk with
    | 0, _ => rw [hQ.1]; exact hz
    | 1, _ => rw [hQ.2]; exact stepL_isz hn _ _
    | k + 2, hk => omega)
  have hres : Hid ((stepL n (fun l => movL n l i.toNat c) l) = Q 1) := Lib.hid hQ.2.symm
  rw [hres.out]
  clear hW1 X1 h hgs hcs hz hsz1 hn hQ hs0 hres
  go_enter Try.func56, Try.ntmps56
  go_wp2_with fail
  rw [← hW1'.out]
  refine q1.out.mono ?_
  rintro e w2 ⟨a2, c2, rfl, o2, b2⟩
  have C2 := X1'.out.on b2
  have z0 := C2.zb.cell 0
  have z1 := C2.zb.cell 1
  have f0 := C2.zb.free 0
  have f1 := C2.zb.free 1
  have C3 := Lib.hid (C2.set (.int .i64 n) (.slice a2 l.length c2))
  have O3 := Lib.hid (own_set (own_from (B := w.heap.size + 3) o2 (fun k hk => by have := (o2.lt k hk).1; have := hsz1'.out; omega)) (g := w.heap.size) (by omega) (.int .i64 n) (.slice a2 l.length c2))
  rw [← hQ0.out] at C3 O3
  rw [← hQ0.out]
  clear C2 o2 b2 q1
  generalize hG : ((w2.setCell ⟨w.heap.size, 0, none⟩ (.int .i64 n)).setCell ⟨w.heap.size, 1, none⟩ (.slice a2 (Q 0).length c2)) = w3 at C3 O3
  have hG' := Lib.hid hG
  clear hG
  go_wp2
  rw [hG'.out]
  clear z0 z1 f0 f1 hG'
  go_loopw [14] (fun x wr => ∃ (k : Nat) (b : Option Addr) (cb : Nat), k ≤ 1 ∧ x = .int .i64 k ∧ Hid (Cg w wr (w.heap.size + 3) n (.int .i64 n) (.slice b (Q k).length cb) i j c) ∧ Hid (wr.ownsRow (w.heap.size + 3) 3 1 (.slice b (Q k).length cb) (Q k).length (nums .i64 (Q k)))) (fun x _ => 1 - (intOf x).toNat)
  case atStart => exact ⟨0, a2, c2, by omega, rfl, C3, O3⟩
  case round =>
    clear C3 O3
    obtain ⟨k, b, cb, hk, rfl, hC, hO⟩ := hrel
    by_cases hlt : k < 1
    · have hki : (k : Int) < 1 := by omega
      obtain rfl : k = 0 := by omega
      have hcell := (hcs'.out wr hC.out.bl)
      obtain ⟨b', cb', hv, -, ss⟩ := sees_own hO.out
      injection hv with e1 _ e3
      subst e1 e3
      have hcap := own_cap hO.out
      have hsmk := (hZ.out 0 (by omega)).small
      have S : Hid (SL wr b (Q 0).length cb (Q 0)) := Lib.hid ⟨rfl, hcap, by omega, ss⟩
      have z0 := hC.out.zb.cell 0
      have z1 := hC.out.zb.cell 1
      have p1 := Lib.hid (hem.out (Q 0) wr b cb S.out)
      clear ss hcap
      by_cases hnil : Q 0 = []
      · have hend : Hid (Q 1 = Q 0) := Lib.hid (by rw [hQ1.out, if_pos hnil, hnil])
        rw [decide_eq_true hnil] at p1
        clear hnil
        go_wp2_with fail
        refine p1.out.mono ?_
        rintro e w5 ⟨rfl, b5⟩
        have C5 := hC.out.on b5
        have O5 := own_below hO.out b5
        have y0 := C5.zb.cell 0
        have y1 := C5.zb.cell 1
        have r0 := C5.rb.cell 0
        have r1 := C5.rb.cell 1
        have g0 := C5.rb.free 0
        have g1 := C5.rb.free 1
        have hfin := Lib.hid (hfinal.out _ _ _ _ C5 O5)
        clear C5 O5 b5 p1 z0 z1
        go_wp2
        rw [hend.out]
        exact zone_ret2 hfin.out.1 hfin.out.2 _ _ 6 7 rfl rfl rfl rfl
      · have hF := ((hZ.out 0 (by omega)).2).resolve_left hnil
        rw [decide_eq_false hnil] at p1
        have hlk := hF.len
        obtain ⟨g, cap, hv, hg⟩ := own_some hO.out (by rw [hlk]; exact sz_pos n)
        injection hv with e1 _ e3
        subst e1 e3
        have hnx : Hid (closedL n (movL n (Q 0) i.toNat c) = Q 1) := Lib.hid (by rw [hQ1.out, if_neg hnil])
        rw [hlk] at p1 z1 S hO hC
        try rw [hlk]
        have hst := Lib.hid (fun W hW => hs0'.out (Q 0) g cb (w.heap.size + 3) W hF hlk hW)
        have hflen : Hid ((movL n (Q 0) i.toNat c).length = sz n) := Lib.hid (by unfold movL; rw [othK_len]; exact hlk)
        have hcl2 := Lib.hid (fun W cap hs => hcl.out (movL n (Q 0) i.toNat c) W g cap hflen.out hs)
        rw [hnx.out] at hcl2
        go_wp2_with fail
        refine p1.out.mono ?_
        rintro e w5 ⟨rfl, b5⟩
        have C5 := Lib.hid (hC.out.on b5)
        have O5 := Lib.hid (own_below hO.out b5)
        clear b5 p1 z0 z1 hcell
        have z0 := C5.out.zb.cell 0
        have z1 := C5.out.zb.cell 1
        have w0 := C5.out.wb.cell 0
        have w1 := C5.out.wb.cell 1
        have w2' := C5.out.wb.cell 2
        have p5 := Lib.hid (hst.out w5 O5.out)
        go_wp2_with fail
        refine p5.out.mono ?_
        rintro e w6 ⟨rfl, o6, b6⟩
        have C6 := Lib.hid (C5.out.onE (by omega) hg b6)
        obtain ⟨b7, c7, hv7, -, ss⟩ := sees_own o6
        have hlen6 := hflen.out
        rw [hlen6] at hv7
        injection hv7 with e1 _ e3
        subst e1 e3
        clear z0 z1 w0 w1 w2' b6 p5
        have z0 := C6.out.zb.cell 0
        have z1 := C6.out.zb.cell 1
        have p6 := Lib.hid (hcl2.out w6 cb ss)
        go_wp2_with fail
        refine p6.out.mono ?_
        rintro e w8 ⟨a8, c8, rfl, o8, b8⟩
        have C8 := C6.out.on b8
        have y0 := C8.zb.cell 0
        have y1 := C8.zb.cell 1
        have f0 := C8.zb.free 0
        have f1 := C8.zb.free 1
        have C9 := Lib.hid (C8.set (.int .i64 n) (.slice a8 (Q 1).length c8))
        have O9 := Lib.hid (own_set (own_from (B := w.heap.size + 3) o8 (fun kk hk => by have := (o8.lt kk hk).1; have := C6.out.sz; omega)) (g := w.heap.size) (by omega) (.int .i64 n) (.slice a8 (Q 1).length c8))
        clear C8 o8 b8 p6 z0 z1
        go_wp2
        go_roundw
        case rel => exact ⟨1, a8, c8, by omega, by go_num, C9, O9⟩
        case measure => simp [intOf]
    · have hke : k = 1 := by omega
      subst hke
      have y0 := hC.out.zb.cell 0
      have y1 := hC.out.zb.cell 1
      have r0 := hC.out.rb.cell 0
      have r1 := hC.out.rb.cell 1
      have g0 := hC.out.rb.free 0
      have g1 := hC.out.rb.free 1
      have hfin := Lib.hid (hfinal.out _ _ _ _ hC.out hO.out)
      go_wp2
      exact zone_ret2 hfin.out.1 hfin.out.2 _ _ 6 7 rfl rfl rfl rfl
set_option maxRecDepth 100000 in
set_option maxHeartbeats 4000000 in
theorem change_tie (n : Nat) (hn : n ≤ 8) (l : List Int) (hz : IsZ n l) (a : Option Addr) (m ca : Nat) (i j c : Int) (hs0 : ∀ (L : List Int) (g cap base : Nat) (W : World), Full n L → L.length = sz n → W.ownsRow base 3 1 (.slice (some ⟨g, 0, none⟩) (sz n) cap) (sz n) (nums .i64 L) → Calls Try.prog 58 #[.agg #[.int .i64 n, .slice (some ⟨g, 0, none⟩) (sz n) cap], .agg #[.int .i64 i, .int .i64 j, .int .i64 c]] W (MatS (sz n) g cap base (forL n L i.toNat) W)) (hs1 : ∀ (L : List Int) (g cap base : Nat) (W : World), Full n L → L.length = sz n → W.ownsRow base 3 1 (.slice (some ⟨g, 0, none⟩) (sz n) cap) (sz n) (nums .i64 L) → Calls Try.prog 60 #[.agg #[.int .i64 n, .slice (some ⟨g, 0, none⟩) (sz n) cap], .agg #[.int .i64 i, .int .i64 j, .int .i64 c]] W (MatS (sz n) g cap base (tieL n L i.toNat j.toNat c) W)) (w : World) (h : SL w a m ca l) (gs : Nat) (hgs : gs < w.heap.size) (hcs : ∀ W, Below w.heap.size w W → W.cell? ⟨gs, 0, none⟩ = some (.func (.func 58) #[] #[]) ∧ W.cell? ⟨gs, 1, none⟩ = some (.func (.func 60) #[] #[])) :
    Calls Try.prog 56 #[.agg #[.int .i64 n, .slice a m ca], .agg #[.int .i64 i, .int .i64 j, .int .i64 c], .slice (some ⟨gs, 0, none⟩) 2 2] w (ZoneE n (stepL n (fun l => tieL n l i.toNat j.toNat c) (stepL n (fun l => forL n l i.toNat) l)) 0 w) := by
  obtain ⟨W1, hW1⟩ : ∃ W1, W1 = ((w.alloc (.cells #[.int .i64 n, .slice a m ca] 24)).alloc (.cells #[.int .i64 i, .int .i64 j, .int .i64 c] 72)).alloc (.cells #[.int .i64 0, .slice none 0 0] 24) := ⟨_, rfl⟩
  have hsz1 : W1.heap.size = w.heap.size + 3 := by rw [hW1]; simp
  have X1 : Cg w W1 (w.heap.size + 3) n (.int .i64 n) (.slice a m ca) i j c := by
    rw [hW1]
    refine ⟨(box2_below _ _ _ _ _).alloc (by simp; omega) _, by simp, ((Holds.new w _ _).alloc _).alloc _, ?_, ?_⟩
    · have := (Holds.new (w.alloc (.cells #[.int .i64 n, .slice a m ca] 24)) 72 #[.int .i64 i, .int .i64 j, .int .i64 c]).alloc (.cells #[.int .i64 0, .slice none 0 0] 24)
      simpa using this
    · have := Holds.new ((w.alloc (.cells #[.int .i64 n, .slice a m ca] 24)).alloc (.cells #[.int .i64 i, .int .i64 j, .int .i64 c] 72)) 24 #[.int .i64 0, .slice none 0 0]
      simpa using this
  have hsm := hz.small
  have q1 := Lib.hid (zclone_own n a m ca l (by have := h.len; omega) W1 (h.below X1.bl))
  have hcl := Lib.hid (fun (L : List Int) (W : World) (g cap : Nat) (hL : L.length = sz n) (hs : Sees .i64 W.heap.size W (some ⟨g, 0, none⟩) L) => dclose_own n hn (some ⟨g, 0, none⟩) L (sz n) cap hL.symm rfl W hs)
  have hem := Lib.hid (fun (L : List Int) (W : World) (b : Option Addr) (cb : Nat) (hs : SL W b L.length cb L) => zempty_any n b L.length cb L W hs)
  have hW1' := Lib.hid hW1
  have X1' := Lib.hid X1
  have hn' := Lib.hid hn
  have hgs' := Lib.hid hgs
  have hcs' := Lib.hid hcs
  have hz' := Lib.hid hz
  have hsz1' := Lib.hid hsz1
  have hfinal : Hid (∀ (L : List Int) (W : World) (b : Option Addr) (cb : Nat), Cg w W (w.heap.size + 3) n (.int .i64 n) (.slice b L.length cb) i j c → W.ownsRow (w.heap.size + 3) 3 1 (.slice b L.length cb) L.length (nums .i64 L) →
      ZH ((W.setCell ⟨w.heap.size + 1 + 1, 0, none⟩ (.int .i64 n)).setCell ⟨w.heap.size + 1 + 1, 1, none⟩ (.slice b L.length cb)) (w.heap.size + 1 + 1) (.int .i64 n) (.slice b L.length cb) ∧ ZoneE n L 0 w (.returned (.tuple #[.agg #[.int .i64 n, .slice b L.length cb], .int .i64 0])) ((W.setCell ⟨w.heap.size + 1 + 1, 0, none⟩ (.int .i64 n)).setCell ⟨w.heap.size + 1 + 1, 1, none⟩ (.slice b L.length cb))) := Lib.hid (fun L W b cb hC hO => by
    have hO2 := own_set hO (g := w.heap.size + 1 + 1) (by omega) (.int .i64 n) (.slice b L.length cb)
    obtain ⟨b2, c2, hv, -, ss⟩ := sees_own hO2
    injection hv with e1 _ e3
    subst e1 e3
    exact ⟨zh_set hC.rb _ _, b, cb, rfl, own_cap hO, ss, (hC.bl.setCell (p := ⟨w.heap.size + 1 + 1, 0, none⟩) (by show _ ≤ _ + 1 + 1; omega) _).setCell (p := ⟨w.heap.size + 1 + 1, 1, none⟩) (by show _ ≤ _ + 1 + 1; omega) _, New.own hO (by omega)⟩)
  have hs0' := Lib.hid hs0
  have hs1' := Lib.hid hs1
  obtain ⟨Q, hQ⟩ : ∃ Q : Nat → List Int, Q 0 = l ∧ Q 1 = (stepL n (fun l => forL n l i.toNat) l) ∧ Q 2 = (stepL n (fun l => tieL n l i.toNat j.toNat c) (stepL n (fun l => forL n l i.toNat) l)) := ⟨fun k => match k with | 0 => l | 1 => (stepL n (fun l => forL n l i.toNat) l) | _ => (stepL n (fun l => tieL n l i.toNat j.toNat c) (stepL n (fun l => forL n l i.toNat) l)), rfl, rfl, rfl⟩
  have hQ0 : Hid (Q 0 = l) := Lib.hid hQ.1
  have hQ1 : Hid (Q 1 = if Q 0 = [] then [] else closedL n (forL n (Q 0) i.toNat)) := Lib.hid (by rw [hQ.2.1, hQ.1]; rfl)
  have hQ2 : Hid (Q 2 = if Q 1 = [] then [] else closedL n (tieL n (Q 1) i.toNat j.toNat c)) := Lib.hid (by rw [hQ.2.2, hQ.2.1]; rfl)
  have hZ : Hid (∀ k, k ≤ 2 → IsZ n (Q k)) := Lib.hid (fun k hk => by
    match k, hk with
    | 0, _ => rw [hQ.1]; exact hz
    | 1, _ => rw [hQ.2.1]; exact stepL_isz hn _ _
    | 2, _ => rw [hQ.2.2]; exact stepL_isz hn _ _
    | k + 3, hk => omega)
  have hres : Hid ((stepL n (fun l => tieL n l i.toNat j.toNat c) (stepL n (fun l => forL n l i.toNat) l)) = Q 2) := Lib.hid hQ.2.2.symm
  rw [hres.out]
  clear hW1 X1 h hgs hcs hz hsz1 hn hQ hs0 hs1 hres
  go_enter Try.func56, Try.ntmps56
  go_wp2_with fail
  rw [← hW1'.out]
  refine q1.out.mono ?_
  rintro e w2 ⟨a2, c2, rfl, o2, b2⟩
  have C2 := X1'.out.on b2
  have z0 := C2.zb.cell 0
  have z1 := C2.zb.cell 1
  have f0 := C2.zb.free 0
  have f1 := C2.zb.free 1
  have C3 := Lib.hid (C2.set (.int .i64 n) (.slice a2 l.length c2))
  have O3 := Lib.hid (own_set (own_from (B := w.heap.size + 3) o2 (fun k hk => by have := (o2.lt k hk).1; have := hsz1'.out; omega)) (g := w.heap.size) (by omega) (.int .i64 n) (.slice a2 l.length c2))
  rw [← hQ0.out] at C3 O3
  rw [← hQ0.out]
  clear C2 o2 b2 q1
  generalize hG : ((w2.setCell ⟨w.heap.size, 0, none⟩ (.int .i64 n)).setCell ⟨w.heap.size, 1, none⟩ (.slice a2 (Q 0).length c2)) = w3 at C3 O3
  have hG' := Lib.hid hG
  clear hG
  go_wp2
  rw [hG'.out]
  clear z0 z1 f0 f1 hG'
  go_loopw [14] (fun x wr => ∃ (k : Nat) (b : Option Addr) (cb : Nat), k ≤ 2 ∧ x = .int .i64 k ∧ Hid (Cg w wr (w.heap.size + 3) n (.int .i64 n) (.slice b (Q k).length cb) i j c) ∧ Hid (wr.ownsRow (w.heap.size + 3) 3 1 (.slice b (Q k).length cb) (Q k).length (nums .i64 (Q k)))) (fun x _ => 2 - (intOf x).toNat)
  case atStart => exact ⟨0, a2, c2, by omega, rfl, C3, O3⟩
  case round =>
    clear C3 O3
    obtain ⟨k, b, cb, hk, rfl, hC, hO⟩ := hrel
    by_cases hlt : k < 2
    · have hki : (k : Int) < 2 := by omega
      obtain rfl | rfl : k = 0 ∨ k = 1 := by omega
      · have hcell := (hcs'.out wr hC.out.bl).1
        obtain ⟨b', cb', hv, -, ss⟩ := sees_own hO.out
        injection hv with e1 _ e3
        subst e1 e3
        have hcap := own_cap hO.out
        have hsmk := (hZ.out 0 (by omega)).small
        have S : Hid (SL wr b (Q 0).length cb (Q 0)) := Lib.hid ⟨rfl, hcap, by omega, ss⟩
        have z0 := hC.out.zb.cell 0
        have z1 := hC.out.zb.cell 1
        have p1 := Lib.hid (hem.out (Q 0) wr b cb S.out)
        clear ss hcap
        by_cases hnil : Q 0 = []
        · have hend : Hid (Q 2 = Q 0) := Lib.hid (by rw [hQ2.out, hQ1.out, if_pos hnil, if_pos rfl, hnil])
          rw [decide_eq_true hnil] at p1
          clear hnil
          go_wp2_with fail
          refine p1.out.mono ?_
          rintro e w5 ⟨rfl, b5⟩
          have C5 := hC.out.on b5
          have O5 := own_below hO.out b5
          have y0 := C5.zb.cell 0
          have y1 := C5.zb.cell 1
          have r0 := C5.rb.cell 0
          have r1 := C5.rb.cell 1
          have g0 := C5.rb.free 0
          have g1 := C5.rb.free 1
          have hfin := Lib.hid (hfinal.out _ _ _ _ C5 O5)
          clear C5 O5 b5 p1 z0 z1
          go_wp2
          rw [hend.out]
          exact zone_ret2 hfin.out.1 hfin.out.2 _ _ 6 7 rfl rfl rfl rfl
        · have hF := ((hZ.out 0 (by omega)).2).resolve_left hnil
          rw [decide_eq_false hnil] at p1
          have hlk := hF.len
          obtain ⟨g, cap, hv, hg⟩ := own_some hO.out (by rw [hlk]; exact sz_pos n)
          injection hv with e1 _ e3
          subst e1 e3
          have hnx : Hid (closedL n (forL n (Q 0) i.toNat) = Q 1) := Lib.hid (by rw [hQ1.out, if_neg hnil])
          rw [hlk] at p1 z1 S hO hC
          try rw [hlk]
          have hst := Lib.hid (fun W hW => hs0'.out (Q 0) g cb (w.heap.size + 3) W hF hlk hW)
          have hflen : Hid ((forL n (Q 0) i.toNat).length = sz n) := Lib.hid (by unfold forL; rw [othK_len]; exact hlk)
          have hcl2 := Lib.hid (fun W cap hs => hcl.out (forL n (Q 0) i.toNat) W g cap hflen.out hs)
          rw [hnx.out] at hcl2
          go_wp2_with fail
          refine p1.out.mono ?_
          rintro e w5 ⟨rfl, b5⟩
          have C5 := Lib.hid (hC.out.on b5)
          have O5 := Lib.hid (own_below hO.out b5)
          clear b5 p1 z0 z1 hcell
          have z0 := C5.out.zb.cell 0
          have z1 := C5.out.zb.cell 1
          have w0 := C5.out.wb.cell 0
          have w1 := C5.out.wb.cell 1
          have w2' := C5.out.wb.cell 2
          have p5 := Lib.hid (hst.out w5 O5.out)
          go_wp2_with fail
          refine p5.out.mono ?_
          rintro e w6 ⟨rfl, o6, b6⟩
          have C6 := Lib.hid (C5.out.onE (by omega) hg b6)
          obtain ⟨b7, c7, hv7, -, ss⟩ := sees_own o6
          have hlen6 := hflen.out
          rw [hlen6] at hv7
          injection hv7 with e1 _ e3
          subst e1 e3
          clear z0 z1 w0 w1 w2' b6 p5
          have z0 := C6.out.zb.cell 0
          have z1 := C6.out.zb.cell 1
          have p6 := Lib.hid (hcl2.out w6 cb ss)
          go_wp2_with fail
          refine p6.out.mono ?_
          rintro e w8 ⟨a8, c8, rfl, o8, b8⟩
          have C8 := C6.out.on b8
          have y0 := C8.zb.cell 0
          have y1 := C8.zb.cell 1
          have f0 := C8.zb.free 0
          have f1 := C8.zb.free 1
          have C9 := Lib.hid (C8.set (.int .i64 n) (.slice a8 (Q 1).length c8))
          have O9 := Lib.hid (own_set (own_from (B := w.heap.size + 3) o8 (fun kk hk => by have := (o8.lt kk hk).1; have := C6.out.sz; omega)) (g := w.heap.size) (by omega) (.int .i64 n) (.slice a8 (Q 1).length c8))
          clear C8 o8 b8 p6 z0 z1
          go_wp2
          go_roundw
          case rel => exact ⟨1, a8, c8, by omega, by go_num, C9, O9⟩
          case measure => simp [intOf]
      · have hcell := (hcs'.out wr hC.out.bl).2
        obtain ⟨b', cb', hv, -, ss⟩ := sees_own hO.out
        injection hv with e1 _ e3
        subst e1 e3
        have hcap := own_cap hO.out
        have hsmk := (hZ.out 1 (by omega)).small
        have S : Hid (SL wr b (Q 1).length cb (Q 1)) := Lib.hid ⟨rfl, hcap, by omega, ss⟩
        have z0 := hC.out.zb.cell 0
        have z1 := hC.out.zb.cell 1
        have p1 := Lib.hid (hem.out (Q 1) wr b cb S.out)
        clear ss hcap
        by_cases hnil : Q 1 = []
        · have hend : Hid (Q 2 = Q 1) := Lib.hid (by rw [hQ2.out, if_pos hnil, hnil])
          rw [decide_eq_true hnil] at p1
          clear hnil
          go_wp2_with fail
          refine p1.out.mono ?_
          rintro e w5 ⟨rfl, b5⟩
          have C5 := hC.out.on b5
          have O5 := own_below hO.out b5
          have y0 := C5.zb.cell 0
          have y1 := C5.zb.cell 1
          have r0 := C5.rb.cell 0
          have r1 := C5.rb.cell 1
          have g0 := C5.rb.free 0
          have g1 := C5.rb.free 1
          have hfin := Lib.hid (hfinal.out _ _ _ _ C5 O5)
          clear C5 O5 b5 p1 z0 z1
          go_wp2
          rw [hend.out]
          exact zone_ret2 hfin.out.1 hfin.out.2 _ _ 6 7 rfl rfl rfl rfl
        · have hF := ((hZ.out 1 (by omega)).2).resolve_left hnil
          rw [decide_eq_false hnil] at p1
          have hlk := hF.len
          obtain ⟨g, cap, hv, hg⟩ := own_some hO.out (by rw [hlk]; exact sz_pos n)
          injection hv with e1 _ e3
          subst e1 e3
          have hnx : Hid (closedL n (tieL n (Q 1) i.toNat j.toNat c) = Q 2) := Lib.hid (by rw [hQ2.out, if_neg hnil])
          rw [hlk] at p1 z1 S hO hC
          try rw [hlk]
          have hst := Lib.hid (fun W hW => hs1'.out (Q 1) g cb (w.heap.size + 3) W hF hlk hW)
          have hflen : Hid ((tieL n (Q 1) i.toNat j.toNat c).length = sz n) := Lib.hid (by unfold tieL; rw [limL_len, limL_len]; exact hlk)
          have hcl2 := Lib.hid (fun W cap hs => hcl.out (tieL n (Q 1) i.toNat j.toNat c) W g cap hflen.out hs)
          rw [hnx.out] at hcl2
          go_wp2_with fail
          refine p1.out.mono ?_
          rintro e w5 ⟨rfl, b5⟩
          have C5 := Lib.hid (hC.out.on b5)
          have O5 := Lib.hid (own_below hO.out b5)
          clear b5 p1 z0 z1 hcell
          have z0 := C5.out.zb.cell 0
          have z1 := C5.out.zb.cell 1
          have w0 := C5.out.wb.cell 0
          have w1 := C5.out.wb.cell 1
          have w2' := C5.out.wb.cell 2
          have p5 := Lib.hid (hst.out w5 O5.out)
          go_wp2_with fail
          refine p5.out.mono ?_
          rintro e w6 ⟨rfl, o6, b6⟩
          have C6 := Lib.hid (C5.out.onE (by omega) hg b6)
          obtain ⟨b7, c7, hv7, -, ss⟩ := sees_own o6
          have hlen6 := hflen.out
          rw [hlen6] at hv7
          injection hv7 with e1 _ e3
          subst e1 e3
          clear z0 z1 w0 w1 w2' b6 p5
          have z0 := C6.out.zb.cell 0
          have z1 := C6.out.zb.cell 1
          have p6 := Lib.hid (hcl2.out w6 cb ss)
          go_wp2_with fail
          refine p6.out.mono ?_
          rintro e w8 ⟨a8, c8, rfl, o8, b8⟩
          have C8 := C6.out.on b8
          have y0 := C8.zb.cell 0
          have y1 := C8.zb.cell 1
          have f0 := C8.zb.free 0
          have f1 := C8.zb.free 1
          have C9 := Lib.hid (C8.set (.int .i64 n) (.slice a8 (Q 2).length c8))
          have O9 := Lib.hid (own_set (own_from (B := w.heap.size + 3) o8 (fun kk hk => by have := (o8.lt kk hk).1; have := C6.out.sz; omega)) (g := w.heap.size) (by omega) (.int .i64 n) (.slice a8 (Q 2).length c8))
          clear C8 o8 b8 p6 z0 z1
          go_wp2
          go_roundw
          case rel => exact ⟨2, a8, c8, by omega, by go_num, C9, O9⟩
          case measure => simp [intOf]
    · have hke : k = 2 := by omega
      subst hke
      have y0 := hC.out.zb.cell 0
      have y1 := hC.out.zb.cell 1
      have r0 := hC.out.rb.cell 0
      have r1 := hC.out.rb.cell 1
      have g0 := hC.out.rb.free 0
      have g1 := hC.out.rb.free 1
      have hfin := Lib.hid (hfinal.out _ _ _ _ hC.out hO.out)
      go_wp2
      exact zone_ret2 hfin.out.1 hfin.out.2 _ _ 6 7 rfl rfl rfl rfl
end Go.Proofs.Ytacbkddkjlnklaa
