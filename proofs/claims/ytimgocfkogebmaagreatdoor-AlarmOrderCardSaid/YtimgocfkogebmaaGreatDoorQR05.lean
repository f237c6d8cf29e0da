/-
  Words and walks under the law's proof.
-/
import Derived.Test.YtimgocfkogebmaaGreatDoorQR04
namespace Go.Proofs.YtimgocfkogebmaaGreatDoor
open Go.RowKit
set_option linter.unusedVariables false
set_option linter.unusedSimpArgs false
structure Cg (w W : World) (B n : Nat) (x y : Value) (i j c : Int) : Prop where
  bl : Below w.heap.size w W
  sz : B ≤ W.heap.size
  zb : ZH W w.heap.size x y
  wb : Holds W (w.heap.size + 1) 196 #[.int .i64 i, .int .i64 j, .int .i64 c]
  rb : ZH W (w.heap.size + 1 + 1) (.int .i64 0) (.slice none 0 0)
theorem Cg.on {w W W' : World} {B n : Nat} {x y : Value} {i j c : Int} (h : Cg w W B n x y i j c) (hb : Below W.heap.size W W') : Cg w W' B n x y i j c := ⟨h.bl.trans (hb.mono h.bl.size), Nat.le_trans h.sz hb.size, h.zb.below hb h.zb.lt, h.wb.below hb h.wb.lt, h.rb.below hb h.rb.lt⟩
theorem Cg.onE {w W W' : World} {B n g : Nat} {x y : Value} {i j c : Int} (h : Cg w W B n x y i j c) (hB : w.heap.size + 3 ≤ B) (hg : B ≤ g) (hb : BelowE [g] W.heap.size W W') : Cg w W' B n x y i j c :=
  ⟨h.bl.trans (BelowE.none ((hb.mono h.bl.size).less (by intro x hx hlt; simp at hx; omega))), Nat.le_trans h.sz hb.size, h.zb.belowE hb h.zb.lt (by simp; omega), h.wb.belowE hb h.wb.lt (by simp; omega), h.rb.belowE hb h.rb.lt (by simp; omega)⟩
theorem Cg.set {w W : World} {B n : Nat} {x y : Value} {i j c : Int} (h : Cg w W B n x y i j c) (u v : Value) : Cg w ((W.setCell ⟨w.heap.size, 0, none⟩ u).setCell ⟨w.heap.size, 1, none⟩ v) B n u v i j c :=
  ⟨(h.bl.setCell (p := ⟨w.heap.size, 0, none⟩) (Nat.le_refl _) _).setCell (p := ⟨w.heap.size, 1, none⟩) (Nat.le_refl _) _, by simpa using h.sz, zh_set h.zb _ _, (h.wb.far (p := ⟨w.heap.size, 0, none⟩) (by simp) _).far (p := ⟨w.heap.size, 1, none⟩) (by simp) _, (h.rb.far (p := ⟨w.heap.size, 0, none⟩) (by simp; omega) _).far (p := ⟨w.heap.size, 1, none⟩) (by simp; omega) _⟩
theorem zown_set {w : World} {base g : Nat} {e : TypeId} {m n c : Nat} {a : Option Addr} {xs : List Value} (h : w.ownsRow base e 1 (.slice a m c) n xs) (hg : g < base) (u v : Value) : ((w.setCell ⟨g, 0, none⟩ u).setCell ⟨g, 1, none⟩ v).ownsRow base e 1 (.slice a m c) n xs := by
  have hE : BelowE [g] w.heap.size w ((w.setCell ⟨g, 0, none⟩ u).setCell ⟨g, 1, none⟩ v) := ((BelowE.refl _ _ _).setIn (p := ⟨g, 0, none⟩) (by simp) _).setIn (p := ⟨g, 1, none⟩) (by simp) _
  exact own_belowE h hE (fun k hk => by have := (h.lt k hk).1; simp only [List.mem_singleton]; omega)
def stepL (n : Nat) (f : List Int → List Int) (l : List Int) : List Int := if l = [] then [] else closedL n (f l)
theorem stepL_isz {n : Nat} (hn : n ≤ 8) (f : List Int → List Int) (l : List Int) : IsZ n (stepL n f l) := by
  refine ⟨hn, ?_⟩
  unfold stepL
  split
  · exact .inl rfl
  · by_cases h : closedL n (f l) = []
    · exact .inl h
    · exact .inr (closed_full hn h)
set_option maxRecDepth 100000 in
set_option maxHeartbeats 4000000 in
theorem change_lim (n : Nat) (hn : n ≤ 8) (l : List Int) (hz : IsZ n l) (a : Option Addr) (m ca : Nat) (i j c : Int) (hs0 : ∀ (L : List Int) (g cap base : Nat) (W : World), Full n L → L.length = sz n → W.ownsRow base 3 1 (.slice (some ⟨g, 0, none⟩) (sz n) cap) (sz n) (nums .i64 L) → Calls Tryz.prog 214 #[.agg #[.int .i64 n, .slice (some ⟨g, 0, none⟩) (sz n) cap], .agg #[.int .i64 i, .int .i64 j, .int .i64 c]] W (MatS (sz n) g cap base (limL n L i.toNat j.toNat c) W)) (w : World) (h : SL w a m ca l) (gs : Nat) (hgs : gs < w.heap.size) (hcs : ∀ W, Below w.heap.size w W → W.cell? ⟨gs, 0, none⟩ = some (.func (.func 214) #[] #[])) :
    Calls Tryz.prog 210 #[.agg #[.int .i64 n, .slice a m ca], .agg #[.int .i64 i, .int .i64 j, .int .i64 c], .slice (some ⟨gs, 0, none⟩) 1 1] w (ZoneE n (stepL n (fun l => limL n l i.toNat j.toNat c) l) 0 w) := by
  obtain ⟨W1, hW1⟩ : ∃ W1, W1 = ((w.alloc (.cells #[.int .i64 n, .slice a m ca] 51)).alloc (.cells #[.int .i64 i, .int .i64 j, .int .i64 c] 196)).alloc (.cells #[.int .i64 0, .slice none 0 0] 51) := ⟨_, rfl⟩
  have hsz1 : W1.heap.size = w.heap.size + 3 := by rw [hW1]; simp
  have X1 : Cg w W1 (w.heap.size + 3) n (.int .i64 n) (.slice a m ca) i j c := by
    rw [hW1]
    refine ⟨(box2_below _ _ _ _ _).alloc (by simp; omega) _, by simp, ((Holds.new w _ _).alloc _).alloc _, ?_, ?_⟩
    · have := (Holds.new (w.alloc (.cells #[.int .i64 n, .slice a m ca] 51)) 196 #[.int .i64 i, .int .i64 j, .int .i64 c]).alloc (.cells #[.int .i64 0, .slice none 0 0] 51)
      simpa using this
    · have := Holds.new ((w.alloc (.cells #[.int .i64 n, .slice a m ca] 51)).alloc (.cells #[.int .i64 i, .int .i64 j, .int .i64 c] 196)) 51 #[.int .i64 0, .slice none 0 0]
      simpa using this
  have hsm := hz.small
  have q1 := Lib.hid (zclone_own n a m ca l (by have := h.len; omega) W1 (h.below X1.bl))
  have hcl := Lib.hid (fun (L : List Int) (W : World) (g cap : Nat) (hL : L.length = sz n) (hs : Sees .i64 W.heap.size W (some ⟨g, 0, none⟩) L) => dclose_own n hn (some ⟨g, 0, none⟩) L (sz n) cap hL.symm rfl W hs)
  have hem := Lib.hid (fun (L : List Int) (W : World) (b : Option Addr) (cb : Nat) (hs : SL W b L.length cb L) => zempty_any n b L.length cb L W hs)
  have hW1' := Lib.hid hW1
  have X1' := Lib.hid X1
  have hn' := Lib.hid hn
  have hgs' := Lib.hid hgs
  have hcs' := Lib.hid hcs
  have hz' := Lib.hid hz
  have hsz1' := Lib.hid hsz1
  have hfinal : Hid (∀ (L : List Int) (W : World) (b : Option Addr) (cb : Nat), Cg w W (w.heap.size + 3) n (.int .i64 n) (.slice b L.length cb) i j c → W.ownsRow (w.heap.size + 3) 3 1 (.slice b L.length cb) L.length (nums .i64 L) →
      ZH ((W.setCell ⟨w.heap.size + 1 + 1, 0, none⟩ (.int .i64 n)).setCell ⟨w.heap.size + 1 + 1, 1, none⟩ (.slice b L.length cb)) (w.heap.size + 1 + 1) (.int .i64 n) (.slice b L.length cb) ∧ ZoneE n L 0 w (.returned (.tuple #[.agg #[.int .i64 n, .slice b L.length cb], .int .i64 0])) ((W.setCell ⟨w.heap.size + 1 + 1, 0, none⟩ (.int .i64 n)).setCell ⟨w.heap.size + 1 + 1, 1, none⟩ (.slice b L.length cb))) := Lib.hid (fun L W b cb hC hO => by
    have hO2 := zown_set hO (g := w.heap.size + 1 + 1) (by omega) (.int .i64 n) (.slice b L.length cb)
    obtain ⟨b2, c2, hv, -, ss⟩ := sees_own hO2
    injection hv with e1 _ e3
    subst e1 e3
    exact ⟨zh_set hC.rb _ _, b, cb, rfl, own_cap hO, ss, (hC.bl.setCell (p := ⟨w.heap.size + 1 + 1, 0, none⟩) (by show _ ≤ _ + 1 + 1; omega) _).setCell (p := ⟨w.heap.size + 1 + 1, 1, none⟩) (by show _ ≤ _ + 1 + 1; omega) _, New.own hO (by omega)⟩)
  have hs0' := Lib.hid hs0
  obtain ⟨Q, hQ⟩ : ∃ Q : Nat → List Int, Q 0 = l ∧ Q 1 = (stepL n (fun l => limL n l i.toNat j.toNat c) l) := ⟨fun k => match k with | 0 => l | _ => (stepL n (fun l => limL n l i.toNat j.toNat c) l), rfl, rfl⟩
  have hQ0 : Hid (Q 0 = l) := Lib.hid hQ.1
  have hQ1 : Hid (Q 1 = if Q 0 = [] then [] else closedL n (limL n (Q 0) i.toNat j.toNat c)) := Lib.hid (by rw [hQ.2, hQ.1]; rfl)
  have hZ : Hid (∀ k, k ≤ 1 → IsZ n (Q k)) := Lib.hid (fun k hk => by
    match k, hk with
    | 0, _ => rw [hQ.1]; exact hz
    | 1, _ => rw [hQ.2]; exact stepL_isz hn _ _
    | k + 2, hk => omega)
  have hres : Hid ((stepL n (fun l => limL n l i.toNat j.toNat c) l) = Q 1) := Lib.hid hQ.2.symm
  rw [hres.out]
  clear hW1 X1 h hgs hcs hz hsz1 hn hQ hs0 hres
  go_enter Tryz.func210, Tryz.ntmps210
  go_wp2_with fail
  rw [← hW1'.out]
  refine q1.out.mono ?_
  rintro e w2 ⟨a2, c2, rfl, o2, b2⟩
  have C2 := X1'.out.on b2
  have z0 := C2.zb.cell 0
  have z1 := C2.zb.cell 1
  have f0 := C2.zb.free 0
  have f1 := C2.zb.free 1
  have C3 := Lib.hid (C2.set (.int .i64 n) (.slice a2 l.length c2))
  have O3 := Lib.hid (zown_set (own_from (B := w.heap.size + 3) o2 (fun k hk => by have := (o2.lt k hk).1; have := hsz1'.out; omega)) (g := w.heap.size) (by omega) (.int .i64 n) (.slice a2 l.length c2))
  rw [← hQ0.out] at C3 O3
  rw [← hQ0.out]
  clear C2 o2 b2 q1
  generalize hG : ((w2.setCell ⟨w.heap.size, 0, none⟩ (.int .i64 n)).setCell ⟨w.heap.size, 1, none⟩ (.slice a2 (Q 0).length c2)) = w3 at C3 O3
  have hG' := Lib.hid hG
  clear hG
  go_wp2
  rw [hG'.out]
  clear z0 z1 f0 f1 hG'
  go_loopw [14] (fun x wr => ∃ (k : Nat) (b : Option Addr) (cb : Nat), k ≤ 1 ∧ x = .int .i64 k ∧ Hid (Cg w wr (w.heap.size + 3) n (.int .i64 n) (.slice b (Q k).length cb) i j c) ∧ Hid (wr.ownsRow (w.heap.size + 3) 3 1 (.slice b (Q k).length cb) (Q k).length (nums .i64 (Q k)))) (fun x _ => 1 - (intOf x).toNat)
  case atStart => exact ⟨0, a2, c2, by omega, rfl, C3, O3⟩
  case round =>
    clear C3 O3
    obtain ⟨k, b, cb, hk, rfl, hC, hO⟩ := hrel
    by_cases hlt : k < 1
    · have hki : (k : Int) < 1 := by omega
      obtain rfl : k = 0 := by omega
      have hcell := (hcs'.out wr hC.out.bl)
      obtain ⟨b', cb', hv, -, ss⟩ := sees_own hO.out
      injection hv with e1 _ e3
      subst e1 e3
      have hcap := own_cap hO.out
      have hsmk := (hZ.out 0 (by omega)).small
      have S : Hid (SL wr b (Q 0).length cb (Q 0)) := Lib.hid ⟨rfl, hcap, by omega, ss⟩
      have z0 := hC.out.zb.cell 0
      have z1 := hC.out.zb.cell 1
      have p1 := Lib.hid (hem.out (Q 0) wr b cb S.out)
      clear ss hcap
      by_cases hnil : Q 0 = []
      · have hend : Hid (Q 1 = Q 0) := Lib.hid (by rw [hQ1.out, if_pos hnil, hnil])
        rw [decide_eq_true hnil] at p1
        clear hnil
        go_wp2_with fail
        refine p1.out.mono ?_
        rintro e w5 ⟨rfl, b5⟩
        have C5 := hC.out.on b5
        have O5 := own_below hO.out b5
        have y0 := C5.zb.cell 0
        have y1 := C5.zb.cell 1
        have r0 := C5.rb.cell 0
        have r1 := C5.rb.cell 1
        have g0 := C5.rb.free 0
        have g1 := C5.rb.free 1
        have hfin := Lib.hid (hfinal.out _ _ _ _ C5 O5)
        clear C5 O5 b5 p1 z0 z1
        go_wp2
        rw [hend.out]
        exact zone_ret2 hfin.out.1 hfin.out.2 _ _ 6 7 rfl rfl rfl rfl
      · have hF := ((hZ.out 0 (by omega)).2).resolve_left hnil
        rw [decide_eq_false hnil] at p1
        have hlk := hF.len
        obtain ⟨g, cap, hv, hg⟩ := own_some hO.out (by rw [hlk]; exact sz_pos n)
        injection hv with e1 _ e3
        subst e1 e3
        have hnx : Hid (closedL n (limL n (Q 0) i.toNat j.toNat c) = Q 1) := Lib.hid (by rw [hQ1.out, if_neg hnil])
        rw [hlk] at p1 z1 S hO hC
        try rw [hlk]
        have hst := Lib.hid (fun W hW => hs0'.out (Q 0) g cb (w.heap.size + 3) W hF hlk hW)
        have hflen : Hid ((limL n (Q 0) i.toNat j.toNat c).length = sz n) := Lib.hid (by unfold limL; rw [List.length_set]; exact hlk)
        have hcl2 := Lib.hid (fun W cap hs => hcl.out (limL n (Q 0) i.toNat j.toNat c) W g cap hflen.out hs)
        rw [hnx.out] at hcl2
        go_wp2_with fail
        refine p1.out.mono ?_
        rintro e w5 ⟨rfl, b5⟩
        have C5 := Lib.hid (hC.out.on b5)
        have O5 := Lib.hid (own_below hO.out b5)
        clear b5 p1 z0 z1 hcell
        have z0 := C5.out.zb.cell 0
        have z1 := C5.out.zb.cell 1
        have w0 := C5.out.wb.cell 0
        have w1 := C5.out.wb.cell 1
        have w2' := C5.out.wb.cell 2
        have p5 := Lib.hid (hst.out w5 O5.out)
        go_wp2_with fail
        refine p5.out.mono ?_
        rintro e w6 ⟨rfl, o6, b6⟩
        have C6 := Lib.hid (C5.out.onE (by omega) hg b6)
        obtain ⟨b7, c7, hv7, -, ss⟩ := sees_own o6
        have hlen6 := hflen.out
        rw [hlen6] at hv7
        injection hv7 with e1 _ e3
        subst e1 e3
        clear z0 z1 w0 w1 w2' b6 p5
        have z0 := C6.out.zb.cell 0
        have z1 := C6.out.zb.cell 1
        have p6 := Lib.hid (hcl2.out w6 cb ss)
        go_wp2_with fail
        refine p6.out.mono ?_
        rintro e w8 ⟨a8, c8, rfl, o8, b8⟩
        have C8 := C6.out.on b8
        have y0 := C8.zb.cell 0
        have y1 := C8.zb.cell 1
        have f0 := C8.zb.free 0
        have f1 := C8.zb.free 1
        have C9 := Lib.hid (C8.set (.int .i64 n) (.slice a8 (Q 1).length c8))
        have O9 := Lib.hid (zown_set (own_from (B := w.heap.size + 3) o8 (fun kk hk => by have := (o8.lt kk hk).1; have := C6.out.sz; omega)) (g := w.heap.size) (by omega) (.int .i64 n) (.slice a8 (Q 1).length c8))
        clear C8 o8 b8 p6 z0 z1
        go_wp2
        go_roundw
        case rel => exact ⟨1, a8, c8, by omega, by go_num, C9, O9⟩
        case measure => simp [intOf]
    · have hke : k = 1 := by omega
      subst hke
      have y0 := hC.out.zb.cell 0
      have y1 := hC.out.zb.cell 1
      have r0 := hC.out.rb.cell 0
      have r1 := hC.out.rb.cell 1
      have g0 := hC.out.rb.free 0
      have g1 := hC.out.rb.free 1
      have hfin := Lib.hid (hfinal.out _ _ _ _ hC.out hO.out)
      go_wp2
      exact zone_ret2 hfin.out.1 hfin.out.2 _ _ 6 7 rfl rfl rfl rfl
end Go.Proofs.YtimgocfkogebmaaGreatDoor
namespace Go.Proofs.YtimgocfkogebmaaGreatDoor
open Go.RowKit
set_option linter.unusedVariables false
set_option linter.unusedSimpArgs false
def chkE (n : Int) (l : List Int) (least i j : Int) : Int := if checkB n l = false then 80 else if i < least ∨ n < i ∨ j < 0 ∨ n < j then 1 else 0
theorem zcheck_bad (n least i j : Int) (a : Option Addr) (m c : Nat) (l : List Int) (w : World) (h : SL w a m c l) (hk : checkB n l = false) : Calls Tryz.prog 209 #[.agg #[.int .i64 n, .slice a m c], .int .i64 least, .int .i64 i, .int .i64 j] w (Gives (.int .i64 80) w) := by
  obtain ⟨W1, hW1⟩ : ∃ W1, W1 = w.alloc (.cells #[.int .i64 n, .slice a m c] 51) := ⟨_, rfl⟩
  have hB : Below w.heap.size w W1 := by rw [hW1]; exact box_below _ _ _
  have Z1 : ZH W1 w.heap.size (.int .i64 n) (.slice a m c) := by rw [hW1]; exact Holds.new w _ _
  have q1 := Lib.hid (dcheck_any n a m c l W1 (h.below hB))
  have hW1' := Lib.hid hW1
  have hB' := Lib.hid hB
  have Z1' := Lib.hid Z1
  clear hW1 hB Z1 h
  rw [show chk n l = 80 by unfold chk; rw [hk]; rfl] at q1
  clear hk
  go_enter Tryz.func209, Tryz.ntmps209
  go_wp2_with fail
  rw [← hW1'.out]
  refine q1.out.mono ?_
  rintro e w2 ⟨rfl, b2⟩
  have k0 := (Z1'.out.below b2 Z1'.out.lt).cell 0
  have bl := Lib.hid (hB'.out.trans (b2.mono hB'.out.size))
  clear b2 q1 Z1' hW1'
  go_wp2
  go_ret
  exact ⟨rfl, bl.out⟩
theorem zcheck_c0 (n least i j : Int) (a : Option Addr) (m c : Nat) (l : List Int) (w : World) (h : SL w a m c l) (hk : checkB n l = true) (d1 : i < least) : Calls Tryz.prog 209 #[.agg #[.int .i64 n, .slice a m c], .int .i64 least, .int .i64 i, .int .i64 j] w (Gives (.int .i64 1) w) := by
  obtain ⟨W1, hW1⟩ : ∃ W1, W1 = w.alloc (.cells #[.int .i64 n, .slice a m c] 51) := ⟨_, rfl⟩
  have hB : Below w.heap.size w W1 := by rw [hW1]; exact box_below _ _ _
  have Z1 : ZH W1 w.heap.size (.int .i64 n) (.slice a m c) := by rw [hW1]; exact Holds.new w _ _
  have q1 := Lib.hid (dcheck_any n a m c l W1 (h.below hB))
  have hW1' := Lib.hid hW1
  have hB' := Lib.hid hB
  have Z1' := Lib.hid Z1
  clear hW1 hB Z1 h
  rw [show chk n l = 0 by unfold chk; rw [hk]; rfl] at q1
  clear hk
  go_enter Tryz.func209, Tryz.ntmps209
  go_wp2_with fail
  rw [← hW1'.out]
  refine q1.out.mono ?_
  rintro e w2 ⟨rfl, b2⟩
  have k0 := (Z1'.out.below b2 Z1'.out.lt).cell 0
  have bl := Lib.hid (hB'.out.trans (b2.mono hB'.out.size))
  clear b2 q1 Z1' hW1'
  go_wp2
  go_ret
  exact ⟨rfl, bl.out⟩
theorem zcheck_c1 (n least i j : Int) (a : Option Addr) (m c : Nat) (l : List Int) (w : World) (h : SL w a m c l) (hk : checkB n l = true) (d1 : ¬ i < least) (d2 : n < i) : Calls Tryz.prog 209 #[.agg #[.int .i64 n, .slice a m c], .int .i64 least, .int .i64 i, .int .i64 j] w (Gives (.int .i64 1) w) := by
  obtain ⟨W1, hW1⟩ : ∃ W1, W1 = w.alloc (.cells #[.int .i64 n, .slice a m c] 51) := ⟨_, rfl⟩
  have hB : Below w.heap.size w W1 := by rw [hW1]; exact box_below _ _ _
  have Z1 : ZH W1 w.heap.size (.int .i64 n) (.slice a m c) := by rw [hW1]; exact Holds.new w _ _
  have q1 := Lib.hid (dcheck_any n a m c l W1 (h.below hB))
  have hW1' := Lib.hid hW1
  have hB' := Lib.hid hB
  have Z1' := Lib.hid Z1
  clear hW1 hB Z1 h
  rw [show chk n l = 0 by unfold chk; rw [hk]; rfl] at q1
  clear hk
  go_enter Tryz.func209, Tryz.ntmps209
  go_wp2_with fail
  rw [← hW1'.out]
  refine q1.out.mono ?_
  rintro e w2 ⟨rfl, b2⟩
  have k0 := (Z1'.out.below b2 Z1'.out.lt).cell 0
  have bl := Lib.hid (hB'.out.trans (b2.mono hB'.out.size))
  clear b2 q1 Z1' hW1'
  go_wp2
  go_ret
  exact ⟨rfl, bl.out⟩
theorem zcheck_c2 (n least i j : Int) (a : Option Addr) (m c : Nat) (l : List Int) (w : World) (h : SL w a m c l) (hk : checkB n l = true) (d1 : ¬ i < least) (d2 : ¬ n < i) (d3 : j < 0) : Calls Tryz.prog 209 #[.agg #[.int .i64 n, .slice a m c], .int .i64 least, .int .i64 i, .int .i64 j] w (Gives (.int .i64 1) w) := by
  obtain ⟨W1, hW1⟩ : ∃ W1, W1 = w.alloc (.cells #[.int .i64 n, .slice a m c] 51) := ⟨_, rfl⟩
  have hB : Below w.heap.size w W1 := by rw [hW1]; exact box_below _ _ _
  have Z1 : ZH W1 w.heap.size (.int .i64 n) (.slice a m c) := by rw [hW1]; exact Holds.new w _ _
  have q1 := Lib.hid (dcheck_any n a m c l W1 (h.below hB))
  have hW1' := Lib.hid hW1
  have hB' := Lib.hid hB
  have Z1' := Lib.hid Z1
  clear hW1 hB Z1 h
  rw [show chk n l = 0 by unfold chk; rw [hk]; rfl] at q1
  clear hk
  go_enter Tryz.func209, Tryz.ntmps209
  go_wp2_with fail
  rw [← hW1'.out]
  refine q1.out.mono ?_
  rintro e w2 ⟨rfl, b2⟩
  have k0 := (Z1'.out.below b2 Z1'.out.lt).cell 0
  have bl := Lib.hid (hB'.out.trans (b2.mono hB'.out.size))
  clear b2 q1 Z1' hW1'
  go_wp2
  go_ret
  exact ⟨rfl, bl.out⟩
theorem zcheck_c3 (n least i j : Int) (a : Option Addr) (m c : Nat) (l : List Int) (w : World) (h : SL w a m c l) (hk : checkB n l = true) (d1 : ¬ i < least) (d2 : ¬ n < i) (d3 : ¬ j < 0) (d4 : n < j) : Calls Tryz.prog 209 #[.agg #[.int .i64 n, .slice a m c], .int .i64 least, .int .i64 i, .int .i64 j] w (Gives (.int .i64 1) w) := by
  obtain ⟨W1, hW1⟩ : ∃ W1, W1 = w.alloc (.cells #[.int .i64 n, .slice a m c] 51) := ⟨_, rfl⟩
  have hB : Below w.heap.size w W1 := by rw [hW1]; exact box_below _ _ _
  have Z1 : ZH W1 w.heap.size (.int .i64 n) (.slice a m c) := by rw [hW1]; exact Holds.new w _ _
  have q1 := Lib.hid (dcheck_any n a m c l W1 (h.below hB))
  have hW1' := Lib.hid hW1
  have hB' := Lib.hid hB
  have Z1' := Lib.hid Z1
  clear hW1 hB Z1 h
  rw [show chk n l = 0 by unfold chk; rw [hk]; rfl] at q1
  clear hk
  go_enter Tryz.func209, Tryz.ntmps209
  go_wp2_with fail
  rw [← hW1'.out]
  refine q1.out.mono ?_
  rintro e w2 ⟨rfl, b2⟩
  have k0 := (Z1'.out.below b2 Z1'.out.lt).cell 0
  have bl := Lib.hid (hB'.out.trans (b2.mono hB'.out.size))
  clear b2 q1 Z1' hW1'
  go_wp2
  go_ret
  exact ⟨rfl, bl.out⟩
theorem zcheck_ok (n least i j : Int) (a : Option Addr) (m c : Nat) (l : List Int) (w : World) (h : SL w a m c l) (hk : checkB n l = true) (d1 : ¬ i < least) (d2 : ¬ n < i) (d3 : ¬ j < 0) (d4 : ¬ n < j) : Calls Tryz.prog 209 #[.agg #[.int .i64 n, .slice a m c], .int .i64 least, .int .i64 i, .int .i64 j] w (Gives (.int .i64 0) w) := by
  obtain ⟨W1, hW1⟩ : ∃ W1, W1 = w.alloc (.cells #[.int .i64 n, .slice a m c] 51) := ⟨_, rfl⟩
  have hB : Below w.heap.size w W1 := by rw [hW1]; exact box_below _ _ _
  have Z1 : ZH W1 w.heap.size (.int .i64 n) (.slice a m c) := by rw [hW1]; exact Holds.new w _ _
  have q1 := Lib.hid (dcheck_any n a m c l W1 (h.below hB))
  have hW1' := Lib.hid hW1
  have hB' := Lib.hid hB
  have Z1' := Lib.hid Z1
  clear hW1 hB Z1 h
  rw [show chk n l = 0 by unfold chk; rw [hk]; rfl] at q1
  clear hk
  go_enter Tryz.func209, Tryz.ntmps209
  go_wp2_with fail
  rw [← hW1'.out]
  refine q1.out.mono ?_
  rintro e w2 ⟨rfl, b2⟩
  have k0 := (Z1'.out.below b2 Z1'.out.lt).cell 0
  have bl := Lib.hid (hB'.out.trans (b2.mono hB'.out.size))
  clear b2 q1 Z1' hW1'
  go_wp2
  go_ret
  exact ⟨rfl, bl.out⟩
theorem zcheck_any (n least i j : Int) (a : Option Addr) (m c : Nat) (l : List Int) (w : World) (h : SL w a m c l) : Calls Tryz.prog 209 #[.agg #[.int .i64 n, .slice a m c], .int .i64 least, .int .i64 i, .int .i64 j] w (Gives (.int .i64 (chkE n l least i j)) w) := by
  unfold chkE
  cases hk : checkB n l
  · rw [if_pos rfl]; exact zcheck_bad n least i j a m c l w h hk
  · rw [if_neg (by decide)]
    by_cases d1 : i < least
    · rw [if_pos (.inl d1)]; exact zcheck_c0 n least i j a m c l w h hk d1
    by_cases d2 : n < i
    · rw [if_pos (.inr (.inl d2))]; exact zcheck_c1 n least i j a m c l w h hk d1 d2
    by_cases d3 : j < 0
    · rw [if_pos (.inr (.inr (.inl d3)))]; exact zcheck_c2 n least i j a m c l w h hk d1 d2 d3
    by_cases d4 : n < j
    · rw [if_pos (.inr (.inr (.inr d4)))]; exact zcheck_c3 n least i j a m c l w h hk d1 d2 d3 d4
    · rw [if_neg (by omega)]; exact zcheck_ok n least i j a m c l w h hk d1 d2 d3 d4
theorem chkE_ok {n : Nat} {l : List Int} (hz : IsZ n l) {least i j : Int} (h1 : least ≤ i) (h2 : i ≤ n) (h3 : 0 ≤ j) (h4 : j ≤ n) : chkE n l least i j = 0 := by
  unfold chkE
  rw [hz.check, if_neg (by decide), if_neg (by omega)]
structure B1 (w W : World) (x y : Value) : Prop where
  bl : Below w.heap.size w W
  z1 : ZH W w.heap.size x y
  z2 : ZH W (w.heap.size + 1) (.int .i64 0) (.slice none 0 0)
theorem B1.on {w W W' : World} {x y : Value} (h : B1 w W x y) (hb : Below W.heap.size W W') : B1 w W' x y := ⟨h.bl.trans (hb.mono h.bl.size), h.z1.below hb h.z1.lt, h.z2.below hb h.z2.lt⟩
theorem b1_new (w : World) (x y : Value) : B1 w ((w.alloc (.cells #[x, y] 51)).alloc (.cells #[.int .i64 0, .slice none 0 0] 51)) x y := by
  refine ⟨box2_below _ _ _ _ _, (Holds.new w _ _).alloc _, ?_⟩
  have := Holds.new (w.alloc (.cells #[x, y] 51)) 51 #[.int .i64 0, .slice none 0 0]
  simpa using this
theorem fun_row (W : World) (t : TypeId) (cs : Array Value) : ∀ W', Below (W.alloc (.cells cs t)).heap.size (W.alloc (.cells cs t)) W' → ∀ k v, cs[k]? = some v → W'.cell? ⟨W.heap.size, k, none⟩ = some v := by
  intro W' hW' k v hk
  have := ((Holds.new W t cs).below hW' (by simp)).cell k
  rw [this, hk]
def limitL (n : Nat) (l : List Int) (i j : Nat) (c : Int) : List Int := stepL n (fun l => limL n l i j c) l
set_option maxRecDepth 100000 in
set_option maxHeartbeats 400000 in
theorem zlimit_ok (n : Nat) (l : List Int) (hz : IsZ n l) (i j : Nat) (hi : i ≤ n) (hj : j ≤ n) (c : Int) (a : Option Addr) (m ca : Nat) (w : World) (h : SL w a m ca l)  : Calls Tryz.prog 206 #[.agg #[.int .i64 n, .slice a m ca], .int .i64 i, .int .i64 j, .int .i64 c] w (ZoneE n (limitL n l i j c) 0 w) := by
  obtain ⟨W1, hW1⟩ : ∃ W1, W1 = (w.alloc (.cells #[.int .i64 n, .slice a m ca] 51)).alloc (.cells #[.int .i64 0, .slice none 0 0] 51) := ⟨_, rfl⟩
  have X1 : B1 w W1 (.int .i64 n) (.slice a m ca) := by rw [hW1]; exact b1_new _ _ _
  have q1 := Lib.hid (zcheck_any n 0 i j a m ca l W1 (h.below X1.bl))
  rw [chkE_ok hz (by omega) (by omega) (by omega) (by omega)] at q1
  have hn := hz.1
  have hS := Lib.hid h
  have q2 := Lib.hid (fun W (hW : Below w.heap.size w W) => change_lim n hn l hz a m ca i j c (fun L g cap base W hF hl ho => by simpa using mlimit_any n hn i j hi hj c g cap base L hl W ho) (W.alloc (.cells #[.func (.func 214) #[] #[]] 198)) ((hS.out.below hW).below (box_below _ _ _)) W.heap.size (by simp) (fun W2 hW2 => fun_row _ _ _ W2 hW2 0 _ rfl))
  rw [show stepL n (fun l => limL n l ((i : Int)).toNat ((j : Int)).toNat c) l = limitL n l i j c from rfl] at q2
  have hW1' := Lib.hid hW1
  have X1' := Lib.hid X1
  have hbb := Lib.hid (fun (W : World) => box_below W #[.func (.func 214) #[] #[]] 198)
  clear hW1 X1 h hz
  generalize (limitL n l i j c) = R at *
  go_enter Tryz.func206, Tryz.ntmps206
  go_wp2_with fail
  rw [← hW1'.out]
  refine q1.out.mono ?_
  rintro e w2 ⟨rfl, b2⟩
  have X2 := Lib.hid (X1'.out.on b2)
  clear b2 X1' q1
  have k0 := X2.out.z1.cell 0
  have k1 := X2.out.z1.cell 1
  have kl := X2.out.z1.lt
  have p2 := Lib.hid (q2.out w2 X2.out.bl)
  go_wp2_with fail
  refine p2.out.mono ?_
  rintro e w7 ⟨a7, c7, rfl, hc7, s7, b7, nw7⟩
  have X3 := X2.out.on (hbb.out w2)
  have Zd := X3.z2.below b7 X3.z2.lt
  have y0 := Zd.cell 0
  have y1 := Zd.cell 1
  have f0 := Zd.free 0
  have f1 := Zd.free 1
  have hfin := Lib.hid (zone_put (n := n) (err := 0) X3.bl (by omega) X3.z2 hc7 s7 b7 nw7)
  clear Zd X3 p2
  go_wp2
  exact zone_ret2 hfin.out.1 hfin.out.2.1 _ _ 8 9 rfl rfl rfl rfl
def forgetL (n : Nat) (l : List Int) (i : Nat) : List Int := stepL n (fun l => forL n l i) l
def letMovL (n : Nat) (l : List Int) (i : Nat) (c : Int) : List Int := stepL n (fun l => movL n l i c) l
def letTieL (n : Nat) (l : List Int) (i j : Nat) (c : Int) : List Int := stepL n (fun l => tieL n l i j c) (stepL n (fun l => forL n l i) l)
end Go.Proofs.YtimgocfkogebmaaGreatDoor
namespace Go.Proofs.YtimgocfkogebmaaGreatDoor
open Go.RowKit
set_option linter.unusedVariables false
set_option linter.unusedSimpArgs false
def clipV (n : Int) : Int := if 1099511627776 < n then 1099511627776 else if n < -1099511627776 then -1099511627776 else n
theorem clipV_id {n : Int} (h0 : -1099511627776 ≤ n) (h1 : n ≤ 1099511627776) : clipV n = n := by unfold clipV; rw [if_neg (by omega), if_neg (by omega)]
theorem clipV_in (n : Int) : -1099511627776 ≤ clipV n ∧ clipV n ≤ 1099511627776 := by unfold clipV; split <;> (try split) <;> omega
theorem info_itv : (Tryz.prog.info? 101).map (·.size) = some 2 := by kernel_rfl
abbrev HI (w : World) (g : Nat) (x y : Int) : Prop := Holds w g 101 #[.int .i64 x, .int .i64 y]
theorem hi_set {w : World} {g : Nat} {a b : Int} (h : HI w g a b) (x y : Int) : HI ((w.setCell ⟨g, 0, none⟩ (.int .i64 x)).setCell ⟨g, 1, none⟩ (.int .i64 y)) g x y := by
  have h1 := (h.set 0 (.int .i64 x)).set 1 (.int .i64 y)
  simpa using h1
theorem itv_ret {Q : Ending → World → Prop} {w : World} {g : Nat} {x y : Int} (hg : HI w g x y) (hQ : Q (.returned (.agg #[.int .i64 x, .int .i64 y])) w) (act : Act) (f : Func) (n : Nat) (hf : f.results = #[.cell n 101]) (ha : act.tmps.getD n undef = .pointer (some ⟨g, 0, none⟩)) (hd : act.defers = []) :
    bodyPost Tryz.prog f Q Exit.ret act w :=
  bodyPost_ret (results_cell_row hf _ _ g 101 #[.int .i64 x, .int .i64 y] (0, 0) _ ha hg Tryz.underlying101 rfl (by rw [info_itv]; rfl)) hd hQ
def ofP (a b : Int) : Int × Int := if b < a ∨ 1099511627776 < a ∨ b < -1099511627776 then (1, 0) else (clipV a, clipV b)
structure B1i (w W : World) (x y : Value) : Prop where
  bl : Below w.heap.size w W
  z1 : ZH W w.heap.size x y
  z2 : HI W (w.heap.size + 1) 0 0
theorem B1i.on {w W W' : World} {x y : Value} (h : B1i w W x y) (hb : Below W.heap.size W W') : B1i w W' x y := ⟨h.bl.trans (hb.mono h.bl.size), h.z1.below hb h.z1.lt, h.z2.below hb h.z2.lt⟩
end Go.Proofs.YtimgocfkogebmaaGreatDoor
namespace Go.Proofs.YtimgocfkogebmaaGreatDoor
open Go.RowKit
set_option linter.unusedVariables false
set_option linter.unusedSimpArgs false
def ItS (B : Nat) (w : World) (a : Option Addr) (xs : List (Int × Int)) : Prop :=
  xs = [] ∨ ∃ b off, a = some ⟨b, off, none⟩ ∧ b < B ∧ ∀ k, k < xs.length → w.cell? ⟨b, off + k * 2, none⟩ = some (.int .i64 (xs.getD k (0, 0)).1) ∧ w.cell? ⟨b, off + k * 2 + 1, none⟩ = some (.int .i64 (xs.getD k (0, 0)).2)
theorem ItS.below {B : Nat} {w w' : World} {a : Option Addr} {xs : List (Int × Int)} (h : ItS B w a xs) (hb : Below B w w') : ItS B w' a xs := by
  rcases h with h | ⟨b, off, e, hB, h⟩
  · exact .inl h
  · exact .inr ⟨b, off, e, hB, fun k hk => ⟨(hb.cell (p := ⟨b, _, none⟩) hB).trans (h k hk).1, (hb.cell (p := ⟨b, _, none⟩) hB).trans (h k hk).2⟩⟩
theorem ItS.at_ {B : Nat} {w : World} {a : Option Addr} {xs : List (Int × Int)} (h : ItS B w a xs) {k : Nat} (hk : k < xs.length) : ∃ b off, a = some ⟨b, off, none⟩ ∧ b < B ∧ w.cell? ⟨b, off + k * 2, none⟩ = some (.int .i64 (xs.getD k (0, 0)).1) ∧ w.cell? ⟨b, off + k * 2 + 1, none⟩ = some (.int .i64 (xs.getD k (0, 0)).2) := by
  rcases h with h | ⟨b, off, e, hB, h⟩
  · rw [h] at hk; simp at hk
  · exact ⟨b, off, e, hB, (h k hk).1, (h k hk).2⟩
def boxP (xs : List (Int × Int)) (k : Nat) : Int × Int := ofP (xs.getD k (0, 0)).1 (xs.getD k (0, 0)).2
def boxK (n : Nat) (xs : List (Int × Int)) : Nat → List Int
  | 0 => allL n
  | k + 1 => limL n (limL n (boxK n xs k) (k + 1) 0 (boxP xs k).2) 0 (k + 1) (-(clipV (boxP xs k).1))
theorem boxK_len (n : Nat) (xs : List (Int × Int)) (k : Nat) : (boxK n xs k).length = sz n := by
  induction k with
  | zero => exact matL_len _ _
  | succ k ih => simp only [boxK]; rw [limL_len, limL_len, ih]
structure Bq (w W : World) (g gz : Nat) (n : Nat) (s cap : Nat) : Prop where
  bl : Below w.heap.size w W
  hgz : w.heap.size < gz
  hsz : gz + 2 ≤ W.heap.size
  rb : ZH W w.heap.size (.int .i64 0) (.slice none 0 0)
  zb : ZH W gz (.int .i64 n) (.slice (some ⟨g, 0, none⟩) s cap)
  mb : Holds W (gz + 1) 201 #[.int .i64 n, .slice (some ⟨g, 0, none⟩) s cap]
theorem Bq.on {w W W' : World} {g gz n s cap : Nat} (h : Bq w W g gz n s cap) (hb : Below W.heap.size W W') : Bq w W' g gz n s cap := ⟨h.bl.trans (hb.mono h.bl.size), h.hgz, Nat.le_trans h.hsz hb.size, h.rb.below hb h.rb.lt, h.zb.below hb h.zb.lt, h.mb.below hb h.mb.lt⟩
theorem Bq.onE {w W W' : World} {g gz n s cap : Nat} (h : Bq w W g gz n s cap) (hg : w.heap.size < g) (hgz : g < gz) (hb : BelowE [g] W.heap.size W W') : Bq w W' g gz n s cap :=
  ⟨h.bl.trans (BelowE.none ((hb.mono h.bl.size).less (by intro x hx hlt; simp at hx; omega))), h.hgz, Nat.le_trans h.hsz hb.size, h.rb.belowE hb h.rb.lt (by simp; omega), h.zb.belowE hb h.zb.lt (by simp; omega), h.mb.belowE hb h.mb.lt (by simp; omega)⟩
theorem Bq.set {w W : World} {g gz n s cap q : Nat} (h : Bq w W g gz n s cap) (hq : gz + 2 ≤ q) (u v : Value) : Bq w ((W.setCell ⟨q, 0, none⟩ u).setCell ⟨q, 1, none⟩ v) g gz n s cap :=
  ⟨(h.bl.setCell (p := ⟨q, 0, none⟩) (by have := h.hgz; show _ ≤ q; omega) _).setCell (p := ⟨q, 1, none⟩) (by have := h.hgz; show _ ≤ q; omega) _, h.hgz, by simpa using h.hsz,
   (h.rb.far (p := ⟨q, 0, none⟩) (by have := h.hgz; show _ ≠ q; omega) _).far (p := ⟨q, 1, none⟩) (by have := h.hgz; show _ ≠ q; omega) _, (h.zb.far (p := ⟨q, 0, none⟩) (by show _ ≠ q; omega) _).far (p := ⟨q, 1, none⟩) (by show _ ≠ q; omega) _, (h.mb.far (p := ⟨q, 0, none⟩) (by show _ ≠ q; omega) _).far (p := ⟨q, 1, none⟩) (by show _ ≠ q; omega) _⟩
end Go.Proofs.YtimgocfkogebmaaGreatDoor
namespace Go.Proofs.YtimgocfkogebmaaGreatDoor
open Go.RowKit
set_option linter.unusedVariables false
set_option linter.unusedSimpArgs false
theorem b1_new2 (w : World) (x y x2 y2 : Value) : Below w.heap.size w ((w.alloc (.cells #[x, y] 51)).alloc (.cells #[x2, y2] 51)) ∧ ZH ((w.alloc (.cells #[x, y] 51)).alloc (.cells #[x2, y2] 51)) (w.heap.size + 1) x2 y2 := by
  refine ⟨box2_below _ _ _ _ _, ?_⟩
  have := Holds.new (w.alloc (.cells #[x, y] 51)) 51 #[x2, y2]
  simpa using this
theorem rlim_nil (n : Nat) (i j c : Int) (a : Option Addr) (ca : Nat) (w : World) : Calls Tryz.prog 92 #[.agg #[.int .i64 n, .slice a 0 ca], .int .i64 i, .int .i64 j, .int .i64 c] w (ZoneN n [] w) := by
  obtain ⟨hb, hz⟩ := b1_new2 w (.int .i64 n) (.slice a 0 ca) (.int .i64 n) (.slice a 0 ca)
  have hb' := Lib.hid hb
  have hz' := Lib.hid hz
  clear hb hz
  go_enter Tryz.func92, Tryz.ntmps92
  go_wp2
  exact zone_ret hz'.out ⟨a, 0, ca, rfl, ⟨rfl, Nat.zero_le _, by omega, .inl rfl⟩, hb'.out, .inl rfl⟩ _ _ 8 rfl rfl rfl
set_option maxRecDepth 100000 in
set_option maxHeartbeats 1000000 in
theorem rlim_full (n : Nat) (l : List Int) (hF : Full n l) (i j : Nat) (hi : i ≤ n) (hj : j ≤ n) (c : Int) (a : Option Addr) (m ca : Nat) (w : World) (h : SL w a m ca l) : Calls Tryz.prog 92 #[.agg #[.int .i64 n, .slice a m ca], .int .i64 i, .int .i64 j, .int .i64 c] w (ZoneN n (closedL n (limL n l i j c)) w) := by
  obtain ⟨i0, hii, hz0, hz1, hz2⟩ := info_parts zinfoInt
  obtain ⟨W1, hW1⟩ : ∃ W1, W1 = (w.alloc (.cells #[.int .i64 n, .slice a m ca] 51)).alloc (.cells #[.int .i64 0, .slice none 0 0] 51) := ⟨_, rfl⟩
  have X1 : B1 w W1 (.int .i64 n) (.slice a m ca) := by rw [hW1]; exact b1_new _ _ _
  have hpos := sz_pos n
  have hs81 := sz_le hF.le
  have hm : m = sz n := by rw [h.len, hF.len]
  have p1 : ((m : Int) == 0) = false := by simp; omega
  have p2 : ¬ (m : Int) = 0 := by omega
  obtain ⟨p, q, u1, u2, u3, hq, hqs, -, -, -⟩ := place_wraps hF.le hi hj
  have hqm : (q : Int) < (m : Int) := by omega
  have hL : limL n l i j c = l.set q (min (l.getD q 0) c) := by unfold limL; rw [hq]
  have hrc := Lib.hid (fun b cb W (hs : Sees .i64 W.heap.size W b (limL n l i j c)) => rclose_any n hF.le b (limL n l i j c) m cb (by rw [limL_len, hF.len, hm]) hm W hs)
  have hsm : Hid ((closedL n (limL n l i j c)).length ≤ 1000) := Lib.hid (by have := closed_small hF.le (limL n l i j c); omega)
  have hlm := Lib.hid (show l.length = m by rw [hF.len, hm])
  have hmb : m ≤ 81 := by omega
  have hS := Lib.hid (h.below X1.bl)
  have X1' := Lib.hid X1
  have k0 := X1.z1.cell 0
  have k1 := X1.z1.cell 1
  have hW1' := Lib.hid hW1
  have hbe : Hid (Below W1.heap.size W1 (W1.alloc (.cells #[] 3))) := Lib.hid (box_below _ _ _)
  have hsz1 : Hid (W1.heap.size = w.heap.size + 1 + 1) := Lib.hid (by rw [hW1]; simp)
  have hm0 : Hid (m ≠ 0) := Lib.hid (by omega)
  obtain ⟨x, hx⟩ : ∃ x, x = l.getD q 0 := ⟨_, rfl⟩
  have hxl : Hid (l.getD q 0 = x) := Lib.hid hx.symm
  have hLlt : Hid (c < x → limL n l i j c = l.set q c) := Lib.hid (fun hc => by rw [hL, ← hx, show min x c = c by omega])
  have hLge : Hid (¬ c < x → limL n l i j c = l) := Lib.hid (fun hc => by
    rw [hL, ← hx, show min x c = x by omega, hx]
    apply List.ext_getElem (by simp)
    intro t h1 h2
    rw [List.getElem_set]
    split
    · rename_i e; subst e; simp [List.getD, h2]
    · rfl)
  have hgoal : Hid (∀ (g cap : Nat) (W : World), B1 w W (.int .i64 n) (.slice a m ca) → W.ownsRow W1.heap.size 3 1 (.slice (some ⟨g, 0, none⟩) m cap) m (nums .i64 (limL n l i j c)) → Calls Tryz.prog 116 #[.int .i64 n, .slice (some ⟨g, 0, none⟩) m cap] W (fun e w' => ∃ a7 m7 c7, e = .returned (.agg #[.int .i64 n, .slice a7 m7 c7]) ∧ B1 w w' (.int .i64 n) (.slice a m ca) ∧ SL w' a7 m7 c7 (closedL n (limL n l i j c)) ∧ ZH ((w'.setCell ⟨w.heap.size + 1, 0, none⟩ (.int .i64 n)).setCell ⟨w.heap.size + 1, 1, none⟩ (.slice a7 m7 c7)) (w.heap.size + 1) (.int .i64 n) (.slice a7 m7 c7) ∧ ZoneN n (closedL n (limL n l i j c)) w (.returned (.agg #[.int .i64 n, .slice a7 m7 c7])) ((w'.setCell ⟨w.heap.size + 1, 0, none⟩ (.int .i64 n)).setCell ⟨w.heap.size + 1, 1, none⟩ (.slice a7 m7 c7)))) := Lib.hid (fun g cap W hX hO => by
    obtain ⟨b, cb, hv, -, ss⟩ := sees_own hO
    injection hv with e1 e2 e3
    subst e1 e3
    refine (hrc.out _ cap W ss).mono ?_
    intro e w7 hz7
    obtain ⟨a7, m7, c7, rfl, s7, b7, nw7⟩ := zoneN_of hsm.out hz7
    obtain ⟨f1, f2⟩ := zone_putN (n := n) hX.bl (by omega) hX.z2 s7 b7 nw7
    exact ⟨a7, m7, c7, rfl, hX.on b7, s7, f1, f2⟩)
  clear hW1 X1 h hF hm hpos hq hqs hL hx hrc hsm
  generalize limL n l i j c = L at *
  generalize closedL n L = R at *
  by_cases hc : c < x
  · have hLe := Lib.hid (hLlt.out hc)
    clear hLlt hLge
    go_enter Tryz.func92, Tryz.ntmps92
    go_wp2_with (at_builtin; rw [← hW1'.out]; refine wpList_append_sees _ rfl (.tmp 16) (.tmp 18) 49 rfl W1 3 i0 (.int .i64 0) 8 Tryz.underlying49 hii hz0 hz1 hz2 rfl .i64 _ [] (by exact own_empty 3 .i64 (Below.refl _ W1)) (by exact hbe.out) W1.heap.size a l (by exact hS.out.sees.below hbe.out) m ca hS.out.len (by rw [hsz1.out]; rfl) rfl (by have := hlm.out; simp; omega) (by omega) ?_; intro v2 w2 hown2 hw2; simp only [List.nil_append] at hown2; rw [hlm.out] at hown2; obtain ⟨g, cap, rfl, hg⟩ := own_some hown2 hm0.out; have m0 := own_at hown2 (i := q) (by have := hlm.out; omega); rw [hxl.out] at m0; have mf := hown2.frozenAt q; have X2 := Lib.hid (X1'.out.on hw2); have d0 := X2.out.z1.cell 0; have d1 := X2.out.z1.cell 1; have O2 := Lib.hid hown2; have d2 : (w2.setCell ⟨g, q, none⟩ (.int .i64 c)).cell? ⟨w.heap.size, 0, none⟩ = some (.int .i64 n) := (World.cell?_setCell_far w2 ⟨g, q, none⟩ ⟨w.heap.size, 0, none⟩ (.int .i64 c) (by have := hsz1.out; show g ≠ w.heap.size; omega)).trans d0; clear hown2 hw2 k0 k1)
    have hB1 : Hid (B1 w (w2.setCell ⟨g, q, none⟩ (.int .i64 c)) (.int .i64 n) (.slice a m ca)) := Lib.hid (by
      have hE : BelowE [g] w2.heap.size w2 (w2.setCell ⟨g, q, none⟩ (.int .i64 c)) := (BelowE.refl _ _ _).setIn (p := ⟨g, q, none⟩) (by simp) _
      have := hsz1.out
      exact ⟨X2.out.bl.setCell (p := ⟨g, q, none⟩) (by show _ ≤ g; omega) _, X2.out.z1.belowE hE X2.out.z1.lt (by simp; omega), X2.out.z2.belowE hE X2.out.z2.lt (by simp; omega)⟩)
    have hcall := Lib.hid (hgoal.out g cap _ hB1.out (by rw [hLe.out]; exact own_put O2.out q c))
    refine hcall.out.mono ?_
    rintro e w7 ⟨a7, m7, c7, rfl, Y, s7, z1, z2⟩
    have y0 := Y.z2.cell 0
    have y1 := Y.z2.cell 1
    have f0 := Y.z2.free 0
    have f1 := Y.z2.free 1
    have z1' := Lib.hid z1
    have z2' := Lib.hid z2
    clear Y s7 z1 z2
    go_wp2
    exact zone_ret z1'.out z2'.out _ _ 8 rfl rfl rfl
  · have hLe := Lib.hid (hLge.out hc)
    clear hLlt hLge
    go_enter Tryz.func92, Tryz.ntmps92
    go_wp2_with (at_builtin; rw [← hW1'.out]; refine wpList_append_sees _ rfl (.tmp 16) (.tmp 18) 49 rfl W1 3 i0 (.int .i64 0) 8 Tryz.underlying49 hii hz0 hz1 hz2 rfl .i64 _ [] (by exact own_empty 3 .i64 (Below.refl _ W1)) (by exact hbe.out) W1.heap.size a l (by exact hS.out.sees.below hbe.out) m ca hS.out.len (by rw [hsz1.out]; rfl) rfl (by have := hlm.out; simp; omega) (by omega) ?_; intro v2 w2 hown2 hw2; simp only [List.nil_append] at hown2; rw [hlm.out] at hown2; obtain ⟨g, cap, rfl, hg⟩ := own_some hown2 hm0.out; have m0 := own_at hown2 (i := q) (by have := hlm.out; omega); rw [hxl.out] at m0; have mf := hown2.frozenAt q; have X2 := Lib.hid (X1'.out.on hw2); have d0 := X2.out.z1.cell 0; have d1 := X2.out.z1.cell 1; have O2 := Lib.hid hown2; have B2' := Lib.hid hw2; clear hown2 hw2 k0 k1)
    have hcall := Lib.hid (hgoal.out g cap _ X2.out (by rw [hLe.out]; exact O2.out))
    refine hcall.out.mono ?_
    rintro e w7 ⟨a7, m7, c7, rfl, Y, s7, z1, z2⟩
    have y0 := Y.z2.cell 0
    have y1 := Y.z2.cell 1
    have f0 := Y.z2.free 0
    have f1 := Y.z2.free 1
    have z1' := Lib.hid z1
    have z2' := Lib.hid z2
    clear Y s7 z1 z2
    go_wp2
    exact zone_ret z1'.out z2'.out _ _ 8 rfl rfl rfl
theorem rnone_any (w : World) : Calls Tryz.prog 194 #[] w (Gives (.agg #[.int .i64 1, .int .i64 0]) w) := by
  go_enter Tryz.func194, Tryz.ntmps194
  go_wp2
  exact itv_ret (Holds.new w _ _) ⟨rfl, box_below _ _ _⟩ _ _ 0 rfl rfl rfl
end Go.Proofs.YtimgocfkogebmaaGreatDoor
namespace Go.Proofs.YtimgocfkogebmaaGreatDoor
open Go.RowKit
set_option linter.unusedVariables false
set_option linter.unusedSimpArgs false
theorem rlim_any (n : Nat) (l : List Int) (hz : IsZ n l) (i j : Nat) (hi : i ≤ n) (hj : j ≤ n) (c : Int) (a : Option Addr) (m ca : Nat) (w : World) (h : SL w a m ca l) : Calls Tryz.prog 92 #[.agg #[.int .i64 n, .slice a m ca], .int .i64 i, .int .i64 j, .int .i64 c] w (ZoneN n (limitL n l i j c) w) := by
  unfold limitL stepL
  rcases hz.2 with e | hF
  · subst e
    have hm : m = 0 := by rw [h.len]; rfl
    subst hm
    rw [if_pos rfl]
    exact rlim_nil n i j c a ca w
  · rw [if_neg hF.ne]
    exact rlim_full n l hF i j hi hj c a m ca w h
end Go.Proofs.YtimgocfkogebmaaGreatDoor
namespace Go.Proofs.YtimgocfkogebmaaGreatDoor
open Go.RowKit
set_option linter.unusedVariables false
set_option linter.unusedSimpArgs false
theorem B1.set {w W : World} {x y : Value} (h : B1 w W x y) {g : Nat} (hg : w.heap.size + 2 ≤ g) (o : Nat) (u : Value) : B1 w (W.setCell ⟨g, o, none⟩ u) x y := by
  have hE : BelowE [g] W.heap.size W (W.setCell ⟨g, o, none⟩ u) := (BelowE.refl _ _ _).setIn (p := ⟨g, o, none⟩) (by simp) _
  exact ⟨h.bl.setCell (p := ⟨g, o, none⟩) (by show _ ≤ g; omega) _, h.z1.belowE hE h.z1.lt (by simp; omega), h.z2.belowE hE h.z2.lt (by simp; omega)⟩
end Go.Proofs.YtimgocfkogebmaaGreatDoor
namespace Go.Proofs.YtimgocfkogebmaaGreatDoor
open Go.RowKit
set_option linter.unusedVariables false
set_option linter.unusedSimpArgs false
theorem limL_at {n : Nat} {l : List Int} (hl : l.length = sz n) {i j : Nat} (hi : i ≤ n) (hj : j ≤ n) (c : Int) {a b : Nat} (ha : a ≤ n) (hb : b ≤ n) : mat n (limL n l i j c) a b = if a = i ∧ b = j then min (mat n l i j) c else mat n l a b := by
  have hp : i * (n + 1) + j < l.length := by rw [hl]; exact place_lt hi hj
  by_cases e : a = i ∧ b = j
  · obtain ⟨rfl, rfl⟩ := e
    rw [if_pos ⟨rfl, rfl⟩]
    unfold mat limL
    simp [List.getD, hp]
  · rw [if_neg e]
    have hne : i * (n + 1) + j ≠ a * (n + 1) + b := by
      intro h
      have h1 := congrArg (fun x => x % (n + 1)) h
      have h2 := congrArg (fun x => x / (n + 1)) h
      simp only [place_mod hj, place_mod hb] at h1
      simp only [place_div hj, place_div hb] at h2
      exact e ⟨h2.symm, h1.symm⟩
    unfold mat limL
    simp [List.getD, List.getElem?_set, hne]
def Lies (n : Nat) (D A : List Int) : Prop := A ≠ [] ∧ Leq n (mat n D) (mat n A)
theorem lies_ext {n : Nat} {A B : List Int} (hA : IsZ n A) (hB : IsZ n B) (h : ∀ D, Full n D → (Lies n D A ↔ Lies n D B)) : A = B := by
  rcases hA.2 with eA | fA
  · rcases hB.2 with eB | fB
    · rw [eA, eB]
    · have := ((h B fB).2 ⟨fB.ne, fun i j _ _ => Int.le_refl _⟩).1
      exact absurd eA this
  · have h1 := (h A fA).1 ⟨fA.ne, fun i j _ _ => Int.le_refl _⟩
    have fB := hB.2.resolve_left h1.1
    have h2 := (h B fB).2 ⟨fB.ne, fun i j _ _ => Int.le_refl _⟩
    exact mat_ext fA.len fB.len (fun i j hi hj => Int.le_antisymm (h1.2 i j hi hj) (h2.2 i j hi hj))
theorem full_in {n : Nat} {D : List Int} (hD : Full n D) {i j : Nat} (hi : i ≤ n) (hj : j ≤ n) : mat n D i j ≤ widestF i j ∧ -2199023255552 ≤ mat n D i j := by
  have a := hD.up hi hj
  have b := hD.low hi hj
  have c := widestF_le j i
  omega
theorem lies_step {n : Nat} {D X : List Int} (hD : Full n D) (hX : IsZ n X) (f : List Int → List Int) (P : Prop) (hf : X ≠ [] → ((∀ i j, i ≤ n → j ≤ n → mat n D i j ≤ mat n (f X) i j) ↔ Leq n (mat n D) (mat n X) ∧ P)) : Lies n D (stepL n f X) ↔ Lies n D X ∧ P := by
  unfold stepL
  by_cases e : X = []
  · rw [if_pos e]
    constructor
    · intro h; exact absurd rfl h.1
    · intro h; exact absurd e h.1.1
  · rw [if_neg e]
    have hc : Leq n (mat n D) (mat n (clipL n (f X))) ↔ ∀ i j, i ≤ n → j ≤ n → mat n D i j ≤ mat n (f X) i j := by
      constructor
      · intro h i j hi hj
        have a := h i j hi hj
        unfold clipL at a
        rw [mat_matL _ hi hj] at a
        unfold clipF at a
        have := full_in hD hi hj
        omega
      · intro h i j hi hj
        have a := h i j hi hj
        have := full_in hD hi hj
        unfold clipL
        rw [mat_matL _ hi hj]
        unfold clipF
        omega
    constructor
    · intro h
      obtain ⟨-, -, h5⟩ := closedL_is h.1
      obtain ⟨q1, q2⟩ := (hf e).1 (hc.1 (fun i j hi hj => Int.le_trans (h.2 i j hi hj) (h5 i j hi hj)))
      exact ⟨⟨e, q1⟩, q2⟩
    · rintro ⟨⟨-, h1⟩, h2⟩
      obtain ⟨q1, q2⟩ := closedL_max hD.closed (hc.2 ((hf e).2 ⟨h1, h2⟩))
      exact ⟨closedL_ne q1, q2⟩
theorem lim_leq {n : Nat} {D l : List Int} (hl : l.length = sz n) {i j : Nat} (hi : i ≤ n) (hj : j ≤ n) (c : Int) : (∀ a b, a ≤ n → b ≤ n → mat n D a b ≤ mat n (limL n l i j c) a b) ↔ Leq n (mat n D) (mat n l) ∧ mat n D i j ≤ c := by
  constructor
  · intro h
    refine ⟨fun a b ha hb => ?_, ?_⟩
    · have q := h a b ha hb
      rw [limL_at hl hi hj c ha hb] at q
      split at q
      · rename_i e; obtain ⟨rfl, rfl⟩ := e; omega
      · exact q
    · have q := h i j hi hj
      rw [limL_at hl hi hj c hi hj, if_pos ⟨rfl, rfl⟩] at q
      omega
  · rintro ⟨h1, h2⟩ a b ha hb
    have q := h1 a b ha hb
    rw [limL_at hl hi hj c ha hb]
    split
    · rename_i e; obtain ⟨rfl, rfl⟩ := e; omega
    · exact q
theorem lies_limit {n : Nat} {D X : List Int} (hD : Full n D) (hX : IsZ n X) {i j : Nat} (hi : i ≤ n) (hj : j ≤ n) (c : Int) : Lies n D (limitL n X i j c) ↔ Lies n D X ∧ mat n D i j ≤ c :=
  lies_step hD hX _ _ (fun e => lim_leq (hX.2.resolve_left e).len hi hj c)
end Go.Proofs.YtimgocfkogebmaaGreatDoor
namespace Go.Proofs.YtimgocfkogebmaaGreatDoor
open Go.RowKit
set_option linter.unusedVariables false
set_option linter.unusedSimpArgs false
def letL (n : Nat) (l : List Int) (i j : Nat) (c : Int) : List Int := if i = j then letMovL n l i c else letTieL n l i j c
theorem letL_isz {n : Nat} (hn : n ≤ 8) (l : List Int) (i j : Nat) (c : Int) : IsZ n (letL n l i j c) := by
  unfold letL
  split
  · exact stepL_isz hn _ _
  · exact stepL_isz hn _ _
end Go.Proofs.YtimgocfkogebmaaGreatDoor
namespace Go.Proofs.YtimgocfkogebmaaGreatDoor
open Go.RowKit
set_option linter.unusedVariables false
set_option linter.unusedSimpArgs false
theorem lim_leqF {n : Nat} {D : Nat → Nat → Int} {l : List Int} (hl : l.length = sz n) {i j : Nat} (hi : i ≤ n) (hj : j ≤ n) (c : Int) : Leq n D (mat n (limL n l i j c)) ↔ Leq n D (mat n l) ∧ D i j ≤ c := by
  constructor
  · intro h
    refine ⟨fun a b ha hb => ?_, ?_⟩
    · have q := h a b ha hb
      rw [limL_at hl hi hj c ha hb] at q
      split at q
      · rename_i e; obtain ⟨rfl, rfl⟩ := e; omega
      · exact q
    · have q := h i j hi hj
      rw [limL_at hl hi hj c hi hj, if_pos ⟨rfl, rfl⟩] at q
      omega
  · rintro ⟨h1, h2⟩ a b ha hb
    have q := h1 a b ha hb
    rw [limL_at hl hi hj c ha hb]
    split
    · rename_i e; obtain ⟨rfl, rfl⟩ := e; omega
    · exact q
end Go.Proofs.YtimgocfkogebmaaGreatDoor
namespace Go.Proofs.YtimgocfkogebmaaGreatDoor
open Go.RowKit
set_option linter.unusedVariables false
set_option linter.unusedSimpArgs false
theorem limitL_isz {n : Nat} (hn : n ≤ 8) (l : List Int) (i j : Nat) (c : Int) : IsZ n (limitL n l i j c) := stepL_isz hn _ _
end Go.Proofs.YtimgocfkogebmaaGreatDoor
namespace Go.Proofs.YtimgocfkogebmaaGreatDoor
open Go.RowKit
set_option linter.unusedVariables false
set_option linter.unusedSimpArgs false
structure P3 (w W : World) (zn zm : Value) (st : Array Value) (rn rm : Value) : Prop where
  bl : Below w.heap.size w W
  z : ZH W w.heap.size zn zm
  s : Holds W (w.heap.size + 1) 73 st
  r : ZH W (w.heap.size + 2) rn rm
theorem P3.on {w W W' : World} {zn zm rn rm : Value} {st : Array Value} (h : P3 w W zn zm st rn rm) (hb : Below W.heap.size W W') : P3 w W' zn zm st rn rm :=
  ⟨h.bl.trans (hb.mono h.bl.size), h.z.below hb h.z.lt, h.s.below hb h.s.lt, h.r.below hb h.r.lt⟩
theorem p3_new (w : World) (zn zm : Value) (st : Array Value) : P3 w (((w.alloc (.cells #[zn, zm] 51)).alloc (.cells st 73)).alloc (.cells #[.int .i64 0, .slice none 0 0] 51)) zn zm st (.int .i64 0) (.slice none 0 0) := by
  refine ⟨((box_below _ _ _).alloc (by simp) _).alloc (by simp; omega) _, ((Holds.new w _ _).alloc _).alloc _, ?_, ?_⟩
  · have := (Holds.new (w.alloc (.cells #[zn, zm] 51)) 73 st).alloc (.cells #[.int .i64 0, .slice none 0 0] 51)
    simpa using this
  · have := Holds.new ((w.alloc (.cells #[zn, zm] 51)).alloc (.cells st 73)) 51 #[.int .i64 0, .slice none 0 0]
    simpa using this
set_option maxRecDepth 100000 in
set_option maxHeartbeats 400000 in
theorem plimit_any (n : Nat) (l : List Int) (hz : IsZ n l) (k x y c d : Int) (X Y : Nat) (ex : x = X) (ey : y = Y) (hx : X ≤ n) (hy : Y ≤ n) (a : Option Addr) (m ca : Nat) (w : World) (h : SL w a m ca l) : Calls Tryz.prog 187 #[.agg #[.int .i64 n, .slice a m ca], .agg #[.int .i64 k, .int .i64 x, .int .i64 y, .int .i64 c, .int .i64 d]] w (ZoneE n (limitL n l X Y c) 0 w) := by
  obtain ⟨W1, hW1⟩ : ∃ W1, W1 = ((w.alloc (.cells #[.int .i64 n, .slice a m ca] 51)).alloc (.cells #[.int .i64 k, .int .i64 x, .int .i64 y, .int .i64 c, .int .i64 d] 73)).alloc (.cells #[.int .i64 0, .slice none 0 0] 51) := ⟨_, rfl⟩
  have X1 : P3 w W1 (.int .i64 n) (.slice a m ca) #[.int .i64 k, .int .i64 x, .int .i64 y, .int .i64 c, .int .i64 d] (.int .i64 0) (.slice none 0 0) := by rw [hW1]; exact p3_new _ _ _ _
  have hW1' := Lib.hid hW1
  have XP := Lib.hid X1
  have k0 := X1.z.cell 0
  have k1 := X1.z.cell 1
  have s1 := X1.s.cell 1
  have s2 := X1.s.cell 2
  have s3 := X1.s.cell 3
  have s4 := X1.s.cell 4
  subst ex ey
  have q := Lib.hid ((fun W hs => zlimit_ok n l hz X Y hx hy c a m ca W hs) W1 (h.below X1.bl))
  clear hW1 X1 h hz
  generalize (limitL n l X Y c) = R at *
  go_enter Tryz.func187, Tryz.ntmps187
  go_wp2_with fail
  rw [← hW1'.out]
  refine q.out.mono ?_
  rintro e w7 ⟨a7, c7, rfl, hc7, s7, b7, nw7⟩
  have Zd := XP.out.r.below b7 XP.out.r.lt
  have y0 := Zd.cell 0
  have y1 := Zd.cell 1
  have f0 := Zd.free 0
  have f1 := Zd.free 1
  have hfin := Lib.hid (zone_put (n := n) (err := 0) XP.out.bl (by omega) XP.out.r hc7 s7 b7 nw7)
  clear Zd q k0 k1 s1 s2 s3 s4 hW1'
  go_wp2
  exact zone_ret2 hfin.out.1 hfin.out.2.1 _ _ 4 5 rfl rfl rfl rfl
set_option maxRecDepth 100000 in
set_option maxHeartbeats 400000 in
theorem beyond_any (n : Nat) (l : List Int) (hz : IsZ n l) (k x y c d : Int) (X Y : Nat) (ex : x = X) (ey : y = Y) (hx : X ≤ n) (hy : Y ≤ n) (hc : -1099511627776 ≤ c ∧ c ≤ 1099511627776) (a : Option Addr) (m ca : Nat) (w : World) (h : SL w a m ca l) : Calls Tryz.prog 199 #[.agg #[.int .i64 n, .slice a m ca], .agg #[.int .i64 k, .int .i64 x, .int .i64 y, .int .i64 c, .int .i64 d]] w (ZoneE n (limitL n l Y X (-c - 1)) 0 w) := by
  obtain ⟨W1, hW1⟩ : ∃ W1, W1 = ((w.alloc (.cells #[.int .i64 n, .slice a m ca] 51)).alloc (.cells #[.int .i64 k, .int .i64 x, .int .i64 y, .int .i64 c, .int .i64 d] 73)).alloc (.cells #[.int .i64 0, .slice none 0 0] 51) := ⟨_, rfl⟩
  have X1 : P3 w W1 (.int .i64 n) (.slice a m ca) #[.int .i64 k, .int .i64 x, .int .i64 y, .int .i64 c, .int .i64 d] (.int .i64 0) (.slice none 0 0) := by rw [hW1]; exact p3_new _ _ _ _
  have hW1' := Lib.hid hW1
  have XP := Lib.hid X1
  have k0 := X1.z.cell 0
  have k1 := X1.z.cell 1
  have s1 := X1.s.cell 1
  have s2 := X1.s.cell 2
  have s3 := X1.s.cell 3
  have s4 := X1.s.cell 4
  subst ex ey
  have wr1 : IntKind.i64.wrap (-c) = -c := by simp [IntKind.wrap, IntKind.bits, IntKind.signed]; omega
  have wr2 : IntKind.i64.wrap (-c - 1) = -c - 1 := by simp [IntKind.wrap, IntKind.bits, IntKind.signed]; omega
  have q := Lib.hid ((fun W hs => zlimit_ok n l hz Y X hy hx (-c - 1) a m ca W hs) W1 (h.below X1.bl))
  clear hW1 X1 h hz
  generalize (limitL n l Y X (-c - 1)) = R at *
  go_enter Tryz.func199, Tryz.ntmps199
  go_wp2_with fail
  rw [← hW1'.out]
  refine q.out.mono ?_
  rintro e w7 ⟨a7, c7, rfl, hc7, s7, b7, nw7⟩
  have Zd := XP.out.r.below b7 XP.out.r.lt
  have y0 := Zd.cell 0
  have y1 := Zd.cell 1
  have f0 := Zd.free 0
  have f1 := Zd.free 1
  have hfin := Lib.hid (zone_put (n := n) (err := 0) XP.out.bl (by omega) XP.out.r hc7 s7 b7 nw7)
  clear Zd q k0 k1 s1 s2 s3 s4 hW1'
  go_wp2
  exact zone_ret2 hfin.out.1 hfin.out.2.1 _ _ 4 5 rfl rfl rfl rfl
end Go.Proofs.YtimgocfkogebmaaGreatDoor
namespace Go.Proofs.YtimgocfkogebmaaGreatDoor
open Go.RowKit
set_option linter.unusedVariables false
set_option linter.unusedSimpArgs false
def postL (n : Nat) (l : List Int) (k x y c d : Int) : List Int := if k = 1 then l else if k = 2 then letL n l x.toNat y.toNat c else if k = 3 then limitL n (limitL n (forgetL n l x.toNat) x.toNat 0 d) 0 x.toNat (-c) else limitL n l x.toNat y.toNat c
def faultL (n : Nat) (l : List Int) (k x y c : Int) : List Int := if k = 5 then limitL n l y.toNat x.toNat (-c - 1) else []
theorem info_steps : (Tryz.prog.info? 167).map (·.size) = some 6 := by kernel_rfl
def stepsA : Array Value := #[.nilFunc, .func (.func 184) #[] #[], .func (.func 185) #[] #[], .func (.func 186) #[] #[], .func (.func 187) #[] #[], .func (.func 187) #[] #[]]
theorem steps_any (w : World) : Calls Tryz.prog 145 #[] w (Gives (.agg stepsA) w) := by
  go_enter Tryz.func145, Tryz.ntmps145
  go_wp2
  exact bodyPost_ret (v := .agg stepsA) (results_cell_row rfl _ _ w.heap.size 167 stepsA (0, 0) _ rfl (heap_alloc_new w (.cells stepsA 167)) Tryz.underlying167 rfl (by rw [info_steps]; rfl)) rfl ⟨rfl, (Below.refl _ _).alloc (Nat.le_refl _) _⟩
def faultsA : Array Value := #[.nilFunc, .func (.func 198) #[] #[], .func (.func 198) #[] #[], .func (.func 198) #[] #[], .func (.func 198) #[] #[], .func (.func 199) #[] #[]]
theorem faults_any (w : World) : Calls Tryz.prog 173 #[] w (Gives (.agg faultsA) w) := by
  go_enter Tryz.func173, Tryz.ntmps173
  go_wp2
  exact bodyPost_ret (v := .agg faultsA) (results_cell_row rfl _ _ w.heap.size 167 faultsA (0, 0) _ rfl (heap_alloc_new w (.cells faultsA 167)) Tryz.underlying167 rfl (by rw [info_steps]; rfl)) rfl ⟨rfl, (Below.refl _ _).alloc (Nat.le_refl _) _⟩
structure P4 (w W : World) (zn zm : Value) (st tab : Array Value) (rn rm : Value) : Prop where
  bl : Below w.heap.size w W
  z : ZH W w.heap.size zn zm
  s : Holds W (w.heap.size + 1) 73 st
  t : Holds W (w.heap.size + 2) 167 tab
  r : ZH W (w.heap.size + 3) rn rm
theorem P4.on {w W W' : World} {zn zm rn rm : Value} {st tab : Array Value} (h : P4 w W zn zm st tab rn rm) (hb : Below W.heap.size W W') : P4 w W' zn zm st tab rn rm :=
  ⟨h.bl.trans (hb.mono h.bl.size), h.z.below hb h.z.lt, h.s.below hb h.s.lt, h.t.below hb h.t.lt, h.r.below hb h.r.lt⟩
theorem p4_new (w : World) (zn zm : Value) (st tab : Array Value) : P4 w ((((w.alloc (.cells #[zn, zm] 51)).alloc (.cells st 73)).alloc (.cells tab 167)).alloc (.cells #[.int .i64 0, .slice none 0 0] 51)) zn zm st tab (.int .i64 0) (.slice none 0 0) := by
  refine ⟨(((box_below _ _ _).alloc (by simp) _).alloc (by simp; omega) _).alloc (by simp; omega) _, (((Holds.new w _ _).alloc _).alloc _).alloc _, ?_, ?_, ?_⟩
  · have := ((Holds.new (w.alloc (.cells #[zn, zm] 51)) 73 st).alloc (.cells tab 167)).alloc (.cells #[.int .i64 0, .slice none 0 0] 51)
    simpa using this
  · have := (Holds.new ((w.alloc (.cells #[zn, zm] 51)).alloc (.cells st 73)) 167 tab).alloc (.cells #[.int .i64 0, .slice none 0 0] 51)
    simpa using this
  · have := Holds.new (((w.alloc (.cells #[zn, zm] 51)).alloc (.cells st 73)).alloc (.cells tab 167)) 51 #[.int .i64 0, .slice none 0 0]
    simpa using this
set_option maxRecDepth 100000 in
set_option maxHeartbeats 400000 in
theorem do_steps_5 (n : Nat) (x y c d : Int) (l R : List Int) (hz : IsZ n l) (hr : rightB 5 x y c d n = true) (a : Option Addr) (m ca : Nat)
    (hq : ∀ W, SL W a m ca l → Calls Tryz.prog 187 #[.agg #[.int .i64 n, .slice a m ca], .agg #[.int .i64 5, .int .i64 x, .int .i64 y, .int .i64 c, .int .i64 d]] W (ZoneE n R 0 W)) (w : World) (h : SL w a m ca l) : Calls Tryz.prog 144 #[.agg #[.int .i64 n, .slice a m ca], .agg #[.int .i64 5, .int .i64 x, .int .i64 y, .int .i64 c, .int .i64 d], .agg #[.nilFunc, .func (.func 184) #[] #[], .func (.func 185) #[] #[], .func (.func 186) #[] #[], .func (.func 187) #[] #[], .func (.func 187) #[] #[]]] w (ZoneE n R 0 w) := by
  obtain ⟨W1, hW1⟩ : ∃ W1, W1 = (((w.alloc (.cells #[.int .i64 n, .slice a m ca] 51)).alloc (.cells #[.int .i64 5, .int .i64 x, .int .i64 y, .int .i64 c, .int .i64 d] 73)).alloc (.cells #[.nilFunc, .func (.func 184) #[] #[], .func (.func 185) #[] #[], .func (.func 186) #[] #[], .func (.func 187) #[] #[], .func (.func 187) #[] #[]] 167)).alloc (.cells #[.int .i64 0, .slice none 0 0] 51) := ⟨_, rfl⟩
  have X1 : P4 w W1 (.int .i64 n) (.slice a m ca) #[.int .i64 5, .int .i64 x, .int .i64 y, .int .i64 c, .int .i64 d] #[.nilFunc, .func (.func 184) #[] #[], .func (.func 185) #[] #[], .func (.func 186) #[] #[], .func (.func 187) #[] #[], .func (.func 187) #[] #[]] (.int .i64 0) (.slice none 0 0) := by rw [hW1]; exact p4_new _ _ _ _ _
  have hW1' := Lib.hid hW1
  have XP := Lib.hid X1
  have k0 := X1.z.cell 0
  have k1 := X1.z.cell 1
  have s0 := X1.s.cell 0
  have s1 := X1.s.cell 1
  have s2 := X1.s.cell 2
  have s3 := X1.s.cell 3
  have s4 := X1.s.cell 4
  have kl := X1.z.lt
  have q1 := Lib.hid (dcheck_any n a m ca l W1 (h.below X1.bl))
  rw [show chk n l = 0 by unfold chk; rw [hz.check]; rfl] at q1
  have q2 := Lib.hid (fun W => right_any 5 x y c d n W)
  rw [hr] at q2
  have hq' := Lib.hid hq
  have hS := Lib.hid h
  clear hW1 X1 h hz hq hr
  go_enter Tryz.func144, Tryz.ntmps144
  go_wp2_with fail
  rw [← hW1'.out]
  refine q1.out.mono ?_
  rintro e w2 ⟨rfl, b2⟩
  have X2 := Lib.hid (XP.out.on b2)
  clear b2 q1 k0 k1 s0 s1 s2 s3 s4 kl XP hW1'
  have k0 := X2.out.z.cell 0
  have s0 := X2.out.s.cell 0
  have s1 := X2.out.s.cell 1
  have s2 := X2.out.s.cell 2
  have s3 := X2.out.s.cell 3
  have s4 := X2.out.s.cell 4
  go_wp2_with fail
  refine (q2.out _).mono ?_
  rintro e w3 ⟨rfl, b3⟩
  have X3 := Lib.hid (X2.out.on b3)
  clear b3 q2 k0 s0 s1 s2 s3 s4 X2
  have D : ∀ W, P4 w W (.int .i64 n) (.slice a m ca) #[.int .i64 5, .int .i64 x, .int .i64 y, .int .i64 c, .int .i64 d] #[.nilFunc, .func (.func 184) #[] #[], .func (.func 185) #[] #[], .func (.func 186) #[] #[], .func (.func 187) #[] #[], .func (.func 187) #[] #[]] (.int .i64 0) (.slice none 0 0) → W.cell? ⟨w.heap.size + 1, 0, none⟩ = some (.int .i64 5) := fun W hW => hW.s.cell 0
  go_wp2
  have g0 : ∀ W, (∃ u v, P4 w W (.int .i64 n) (.slice a m ca) #[.int .i64 5, .int .i64 x, .int .i64 y, .int .i64 c, .int .i64 d] #[.nilFunc, .func (.func 184) #[] #[], .func (.func 185) #[] #[], .func (.func 186) #[] #[], .func (.func 187) #[] #[], .func (.func 187) #[] #[]] u v) → W.cell? ⟨w.heap.size, 0, none⟩ = some (.int .i64 n) := fun W hW => by obtain ⟨_, _, hP⟩ := hW; exact hP.z.cell 0
  have g1 : ∀ W, (∃ u v, P4 w W (.int .i64 n) (.slice a m ca) #[.int .i64 5, .int .i64 x, .int .i64 y, .int .i64 c, .int .i64 d] #[.nilFunc, .func (.func 184) #[] #[], .func (.func 185) #[] #[], .func (.func 186) #[] #[], .func (.func 187) #[] #[], .func (.func 187) #[] #[]] u v) → W.cell? ⟨w.heap.size, 1, none⟩ = some (.slice a m ca) := fun W hW => by obtain ⟨_, _, hP⟩ := hW; exact hP.z.cell 1
  have gt : ∀ W, (∃ u v, P4 w W (.int .i64 n) (.slice a m ca) #[.int .i64 5, .int .i64 x, .int .i64 y, .int .i64 c, .int .i64 d] #[.nilFunc, .func (.func 184) #[] #[], .func (.func 185) #[] #[], .func (.func 186) #[] #[], .func (.func 187) #[] #[], .func (.func 187) #[] #[]] u v) → W.cell? ⟨w.heap.size + 2, 5, none⟩ = some (.func (.func 187) #[] #[]) := fun W hW => by obtain ⟨_, _, hP⟩ := hW; exact hP.t.cell 5
  have r0 : ∀ W, (∃ u v, P4 w W (.int .i64 n) (.slice a m ca) #[.int .i64 5, .int .i64 x, .int .i64 y, .int .i64 c, .int .i64 d] #[.nilFunc, .func (.func 184) #[] #[], .func (.func 185) #[] #[], .func (.func 186) #[] #[], .func (.func 187) #[] #[], .func (.func 187) #[] #[]] u v) → W.cell? ⟨w.heap.size + 1, 0, none⟩ = some (.int .i64 5) := fun W hW => by obtain ⟨_, _, hP⟩ := hW; exact hP.s.cell 0
  have r1 : ∀ W, (∃ u v, P4 w W (.int .i64 n) (.slice a m ca) #[.int .i64 5, .int .i64 x, .int .i64 y, .int .i64 c, .int .i64 d] #[.nilFunc, .func (.func 184) #[] #[], .func (.func 185) #[] #[], .func (.func 186) #[] #[], .func (.func 187) #[] #[], .func (.func 187) #[] #[]] u v) → W.cell? ⟨w.heap.size + 1, 1, none⟩ = some (.int .i64 x) := fun W hW => by obtain ⟨_, _, hP⟩ := hW; exact hP.s.cell 1
  have r2 : ∀ W, (∃ u v, P4 w W (.int .i64 n) (.slice a m ca) #[.int .i64 5, .int .i64 x, .int .i64 y, .int .i64 c, .int .i64 d] #[.nilFunc, .func (.func 184) #[] #[], .func (.func 185) #[] #[], .func (.func 186) #[] #[], .func (.func 187) #[] #[], .func (.func 187) #[] #[]] u v) → W.cell? ⟨w.heap.size + 1, 2, none⟩ = some (.int .i64 y) := fun W hW => by obtain ⟨_, _, hP⟩ := hW; exact hP.s.cell 2
  have r3 : ∀ W, (∃ u v, P4 w W (.int .i64 n) (.slice a m ca) #[.int .i64 5, .int .i64 x, .int .i64 y, .int .i64 c, .int .i64 d] #[.nilFunc, .func (.func 184) #[] #[], .func (.func 185) #[] #[], .func (.func 186) #[] #[], .func (.func 187) #[] #[], .func (.func 187) #[] #[]] u v) → W.cell? ⟨w.heap.size + 1, 3, none⟩ = some (.int .i64 c) := fun W hW => by obtain ⟨_, _, hP⟩ := hW; exact hP.s.cell 3
  have r4 : ∀ W, (∃ u v, P4 w W (.int .i64 n) (.slice a m ca) #[.int .i64 5, .int .i64 x, .int .i64 y, .int .i64 c, .int .i64 d] #[.nilFunc, .func (.func 184) #[] #[], .func (.func 185) #[] #[], .func (.func 186) #[] #[], .func (.func 187) #[] #[], .func (.func 187) #[] #[]] u v) → W.cell? ⟨w.heap.size + 1, 4, none⟩ = some (.int .i64 d) := fun W hW => by obtain ⟨_, _, hP⟩ := hW; exact hP.s.cell 4
  clear D
  refine wp_drawn_on (fun W => ∃ u v, P4 w W (.int .i64 n) (.slice a m ca) #[.int .i64 5, .int .i64 x, .int .i64 y, .int .i64 c, .int .i64 d] #[.nilFunc, .func (.func 184) #[] #[], .func (.func 185) #[] #[], .func (.func 186) #[] #[], .func (.func 187) #[] #[], .func (.func 187) #[] #[]] u v) (by kernel_rfl) (⟨_, _, X3.out.on (Below.refl _ _).drew⟩) (fun hHeld => ?_)
  refine wpAnyH_take (i := 0) (oi := { dst := some 18, op := Go.Op.fieldAddr 73 (Go.Operand.tmp 4) 0, type := 0, pos := "post.go:66", after := #[], guard := none }) (v := ?v37) rfl (by kernel_rfl) (by kernel_rfl) (by kernel_rfl) (fun _ _ _ h => h) (Or.inl ⟨by kernel_rfl, ?h37⟩) (by assumption) ?r37
  case h37 => (intro w hSw; (try dsimp only at hSw); go_simp; try with_reducible rfl)
  try simp only [Act.put, List.setIfInBounds_toArray, List.set_cons_zero, List.set_cons_succ]
  refine wpAnyH_take (i := 1) (oi := { dst := some 19, op := Go.Op.load 3 (Go.Operand.tmp 18), type := 3, pos := "post.go:66", after := #[{ on := 0, ground := Go.Ground.data }], guard := none }) (v := ?v38) rfl (by kernel_rfl) (by kernel_rfl) (by kernel_rfl) (fun _ _ _ h => h) (Or.inl ⟨by kernel_rfl, ?h38⟩) (by assumption) ?r38
  case h38 => (intro w hSw; (try dsimp only at hSw); go_simp; try with_reducible rfl)
  try simp only [Act.put, List.setIfInBounds_toArray, List.set_cons_zero, List.set_cons_succ]
  refine wpAnyH_take (i := 2) (oi := { dst := some 20, op := Go.Op.indexAddr 167 (Go.Operand.tmp 5) (Go.Operand.tmp 19), type := 0, pos := "post.go:66", after := #[{ on := 1, ground := Go.Ground.data }], guard := none }) (v := ?v39) rfl (by kernel_rfl) (by kernel_rfl) (by kernel_rfl) (fun _ _ _ h => h) (Or.inl ⟨by kernel_rfl, ?h39⟩) (by assumption) ?r39
  case h39 => (intro w hSw; (try dsimp only at hSw); go_simp; try with_reducible rfl)
  try simp only [Act.put, List.setIfInBounds_toArray, List.set_cons_zero, List.set_cons_succ]
  refine wpAnyH_take (i := 3) (oi := { dst := some 21, op := Go.Op.load 166 (Go.Operand.tmp 20), type := 166, pos := "post.go:66", after := #[{ on := 2, ground := Go.Ground.data }], guard := none }) (v := ?v40) rfl (by kernel_rfl) (by kernel_rfl) (by kernel_rfl) (fun _ _ _ h => h) (Or.inl ⟨by kernel_rfl, ?h40⟩) (by assumption) ?r40
  case h40 => (intro w hSw; (try dsimp only at hSw); go_simp; try with_reducible rfl)
  try simp only [Act.put, List.setIfInBounds_toArray, List.set_cons_zero, List.set_cons_succ]
  refine wpAnyH_take (i := 4) (oi := { dst := some 22, op := Go.Op.load 51 (Go.Operand.tmp 3), type := 51, pos := "post.go:66", after := #[], guard := none }) (v := ?v41) rfl (by kernel_rfl) (by kernel_rfl) (by kernel_rfl) (fun _ _ _ h => h) (Or.inl ⟨by kernel_rfl, ?h41⟩) (by assumption) ?r41
  case h41 => (intro w hSw; (try dsimp only at hSw); go_simp; try with_reducible rfl)
  try simp only [Act.put, List.setIfInBounds_toArray, List.set_cons_zero, List.set_cons_succ]
  refine wpAnyH_take (i := 5) (oi := { dst := some 23, op := Go.Op.load 73 (Go.Operand.tmp 4), type := 73, pos := "post.go:66", after := #[], guard := none }) (v := ?v42) rfl (by kernel_rfl) (by kernel_rfl) (by kernel_rfl) (fun _ _ _ h => h) (Or.inl ⟨by kernel_rfl, ?h42⟩) (by assumption) ?r42
  case h42 => (intro w hSw; (try dsimp only at hSw); go_simp; try with_reducible rfl)
  try simp only [Act.put, List.setIfInBounds_toArray, List.set_cons_zero, List.set_cons_succ]
  refine wpAnyH_ready (rs := [6]) (by kernel_rfl) (by simp) ?_
  refine AllReadyH.cons (o := { dst := some 24, op := Go.Op.call { callee := Go.Callee.value (Go.Operand.tmp 21), args := #[Go.Operand.tmp 22, Go.Operand.tmp 23], argTypes := #[51, 73] }, type := 126, pos := "post.go:66", after := #[{ on := 3, ground := Go.Ground.data }, { on := 4, ground := Go.Ground.data }, { on := 5, ground := Go.Ground.data }], guard := none }) rfl (fun K hK => ?_) AllReadyH.nil
  go_simp
  refine (hq'.out _ (hS.out.below (X3.out.on (Below.refl _ _).drew).bl)).mono ?_
  rintro e u6 ⟨a7, c7, rfl, hc7, s7, b7, nw7⟩
  have Q6 := (X3.out.on (Below.refl _ _).drew).on b7
  have hx6 : ∃ u v, P4 w u6 (.int .i64 n) (.slice a m ca) #[.int .i64 5, .int .i64 x, .int .i64 y, .int .i64 c, .int .i64 d] #[.nilFunc, .func (.func 184) #[] #[], .func (.func 185) #[] #[], .func (.func 186) #[] #[], .func (.func 187) #[] #[], .func (.func 187) #[] #[]] u v := ⟨_, _, Q6⟩
  have y0 := Q6.r.cell 0
  have y1 := Q6.r.cell 1
  have f0 := Q6.r.free 0
  have f1 := Q6.r.free 1
  go_simp
  refine hK.out _ _ (hx6) (fun hHeld => ?_)
  clear hK K
  try simp only [Act.put, List.setIfInBounds_toArray, List.set_cons_zero, List.set_cons_succ]
  refine wpAnyH_take (i := 7) (oi := { dst := some 25, op := Go.Op.extract (Go.Operand.tmp 24) 0, type := 51, pos := "post.go:66", after := #[{ on := 6, ground := Go.Ground.data }], guard := none }) (v := ?v43) rfl (by kernel_rfl) (by kernel_rfl) (by kernel_rfl) (fun _ _ _ h => h) (Or.inl ⟨by kernel_rfl, ?h43⟩) (by assumption) ?r43
  case h43 => (intro w hSw; (try dsimp only at hSw); go_simp; try with_reducible rfl)
  try simp only [Act.put, List.setIfInBounds_toArray, List.set_cons_zero, List.set_cons_succ]
  refine wpAnyH_take (i := 8) (oi := { dst := some 26, op := Go.Op.extract (Go.Operand.tmp 24) 1, type := 27, pos := "post.go:66", after := #[{ on := 6, ground := Go.Ground.data }], guard := none }) (v := ?v44) rfl (by kernel_rfl) (by kernel_rfl) (by kernel_rfl) (fun _ _ _ h => h) (Or.inl ⟨by kernel_rfl, ?h44⟩) (by assumption) ?r44
  case h44 => (intro w hSw; (try dsimp only at hSw); go_simp; try with_reducible rfl)
  try simp only [Act.put, List.setIfInBounds_toArray, List.set_cons_zero, List.set_cons_succ]
  refine wpAnyH_ready (rs := [9]) (by kernel_rfl) (by simp) ?_
  refine AllReadyH.cons (o := { dst := none, op := Go.Op.store 51 (Go.Operand.tmp 6) (Go.Operand.tmp 25), type := 0, pos := "post.go:66", after := #[{ on := 7, ground := Go.Ground.data }, { on := 6, ground := Go.Ground.chain }, { on := 0, ground := Go.Ground.phase }, { on := 1, ground := Go.Ground.phase }, { on := 2, ground := Go.Ground.phase }, { on := 3, ground := Go.Ground.phase }, { on := 4, ground := Go.Ground.phase }, { on := 5, ground := Go.Ground.phase }, { on := 6, ground := Go.Ground.phase }, { on := 7, ground := Go.Ground.phase }, { on := 8, ground := Go.Ground.phase }], guard := none }) rfl (fun K hK => ?_) AllReadyH.nil
  go_simp
  have hx9 : ∃ u v, P4 w ((u6.setCell ⟨w.heap.size + 3, 0, none⟩ (.int .i64 n)).setCell ⟨w.heap.size + 3, 1, none⟩ (.slice a7 R.length c7)) (.int .i64 n) (.slice a m ca) #[.int .i64 5, .int .i64 x, .int .i64 y, .int .i64 c, .int .i64 d] #[.nilFunc, .func (.func 184) #[] #[], .func (.func 185) #[] #[], .func (.func 186) #[] #[], .func (.func 187) #[] #[], .func (.func 187) #[] #[]] u v := ⟨_, _, ⟨(Q6.bl.setCell (p := ⟨w.heap.size + 3, 0, none⟩) (by show w.heap.size ≤ w.heap.size + 3; omega) _).setCell (p := ⟨w.heap.size + 3, 1, none⟩) (by show w.heap.size ≤ w.heap.size + 3; omega) _, (Q6.z.far (p := ⟨w.heap.size + 3, 0, none⟩) (by simp) _).far (p := ⟨w.heap.size + 3, 1, none⟩) (by simp) _, (Q6.s.far (p := ⟨w.heap.size + 3, 0, none⟩) (by simp) _).far (p := ⟨w.heap.size + 3, 1, none⟩) (by simp) _, (Q6.t.far (p := ⟨w.heap.size + 3, 0, none⟩) (by simp) _).far (p := ⟨w.heap.size + 3, 1, none⟩) (by simp) _, zh_set Q6.r _ _⟩⟩
  refine hK.out _ _ (hx9) (fun hHeld => ?_)
  clear hK K
  try simp only [Act.put, List.setIfInBounds_toArray, List.set_cons_zero, List.set_cons_succ]
  refine wpAnyH_take (i := 10) (oi := { dst := some 7, op := Go.Op.assign (Go.Operand.tmp 26), type := 27, pos := "post.go:66", after := #[{ on := 8, ground := Go.Ground.data }, { on := 9, ground := Go.Ground.chain }, { on := 0, ground := Go.Ground.phase }, { on := 1, ground := Go.Ground.phase }, { on := 2, ground := Go.Ground.phase }, { on := 3, ground := Go.Ground.phase }, { on := 4, ground := Go.Ground.phase }, { on := 5, ground := Go.Ground.phase }, { on := 6, ground := Go.Ground.phase }, { on := 7, ground := Go.Ground.phase }, { on := 8, ground := Go.Ground.phase }, { on := 9, ground := Go.Ground.phase }], guard := none }) (v := ?v45) rfl (by kernel_rfl) (by kernel_rfl) (by kernel_rfl) (fun _ _ _ h => h) (Or.inl ⟨by kernel_rfl, ?h45⟩) (by assumption) ?r45
  case h45 => (intro w hSw; (try dsimp only at hSw); go_simp; try with_reducible rfl)
  try simp only [Act.put, List.setIfInBounds_toArray, List.set_cons_zero, List.set_cons_succ]
  refine wpAnyH_done (by kernel_rfl) ?_ _
  have hfin := Lib.hid (zone_put (n := n) (err := 0) (X3.out.on (Below.refl _ _).drew).bl (by omega) (X3.out.on (Below.refl _ _).drew).r hc7 s7 b7 nw7)
  clear g0 g1 gt r0 r1 r2 r3 r4 y0 y1 f0 f1 hx6 hx9 hHeld Q6
  go_wp2
  exact zone_ret2 hfin.out.1 hfin.out.2.1 _ _ 6 7 rfl rfl rfl rfl
set_option maxRecDepth 100000 in
set_option maxHeartbeats 400000 in
theorem do_faults_5 (n : Nat) (x y c d : Int) (l R : List Int) (hz : IsZ n l) (hr : rightB 5 x y c d n = true) (a : Option Addr) (m ca : Nat)
    (hq : ∀ W, SL W a m ca l → Calls Tryz.prog 199 #[.agg #[.int .i64 n, .slice a m ca], .agg #[.int .i64 5, .int .i64 x, .int .i64 y, .int .i64 c, .int .i64 d]] W (ZoneE n R 0 W)) (w : World) (h : SL w a m ca l) : Calls Tryz.prog 144 #[.agg #[.int .i64 n, .slice a m ca], .agg #[.int .i64 5, .int .i64 x, .int .i64 y, .int .i64 c, .int .i64 d], .agg #[.nilFunc, .func (.func 198) #[] #[], .func (.func 198) #[] #[], .func (.func 198) #[] #[], .func (.func 198) #[] #[], .func (.func 199) #[] #[]]] w (ZoneE n R 0 w) := by
  obtain ⟨W1, hW1⟩ : ∃ W1, W1 = (((w.alloc (.cells #[.int .i64 n, .slice a m ca] 51)).alloc (.cells #[.int .i64 5, .int .i64 x, .int .i64 y, .int .i64 c, .int .i64 d] 73)).alloc (.cells #[.nilFunc, .func (.func 198) #[] #[], .func (.func 198) #[] #[], .func (.func 198) #[] #[], .func (.func 198) #[] #[], .func (.func 199) #[] #[]] 167)).alloc (.cells #[.int .i64 0, .slice none 0 0] 51) := ⟨_, rfl⟩
  have X1 : P4 w W1 (.int .i64 n) (.slice a m ca) #[.int .i64 5, .int .i64 x, .int .i64 y, .int .i64 c, .int .i64 d] #[.nilFunc, .func (.func 198) #[] #[], .func (.func 198) #[] #[], .func (.func 198) #[] #[], .func (.func 198) #[] #[], .func (.func 199) #[] #[]] (.int .i64 0) (.slice none 0 0) := by rw [hW1]; exact p4_new _ _ _ _ _
  have hW1' := Lib.hid hW1
  have XP := Lib.hid X1
  have k0 := X1.z.cell 0
  have k1 := X1.z.cell 1
  have s0 := X1.s.cell 0
  have s1 := X1.s.cell 1
  have s2 := X1.s.cell 2
  have s3 := X1.s.cell 3
  have s4 := X1.s.cell 4
  have kl := X1.z.lt
  have q1 := Lib.hid (dcheck_any n a m ca l W1 (h.below X1.bl))
  rw [show chk n l = 0 by unfold chk; rw [hz.check]; rfl] at q1
  have q2 := Lib.hid (fun W => right_any 5 x y c d n W)
  rw [hr] at q2
  have hq' := Lib.hid hq
  have hS := Lib.hid h
  clear hW1 X1 h hz hq hr
  go_enter Tryz.func144, Tryz.ntmps144
  go_wp2_with fail
  rw [← hW1'.out]
  refine q1.out.mono ?_
  rintro e w2 ⟨rfl, b2⟩
  have X2 := Lib.hid (XP.out.on b2)
  clear b2 q1 k0 k1 s0 s1 s2 s3 s4 kl XP hW1'
  have k0 := X2.out.z.cell 0
  have s0 := X2.out.s.cell 0
  have s1 := X2.out.s.cell 1
  have s2 := X2.out.s.cell 2
  have s3 := X2.out.s.cell 3
  have s4 := X2.out.s.cell 4
  go_wp2_with fail
  refine (q2.out _).mono ?_
  rintro e w3 ⟨rfl, b3⟩
  have X3 := Lib.hid (X2.out.on b3)
  clear b3 q2 k0 s0 s1 s2 s3 s4 X2
  have D : ∀ W, P4 w W (.int .i64 n) (.slice a m ca) #[.int .i64 5, .int .i64 x, .int .i64 y, .int .i64 c, .int .i64 d] #[.nilFunc, .func (.func 198) #[] #[], .func (.func 198) #[] #[], .func (.func 198) #[] #[], .func (.func 198) #[] #[], .func (.func 199) #[] #[]] (.int .i64 0) (.slice none 0 0) → W.cell? ⟨w.heap.size + 1, 0, none⟩ = some (.int .i64 5) := fun W hW => hW.s.cell 0
  go_wp2
  have g0 : ∀ W, (∃ u v, P4 w W (.int .i64 n) (.slice a m ca) #[.int .i64 5, .int .i64 x, .int .i64 y, .int .i64 c, .int .i64 d] #[.nilFunc, .func (.func 198) #[] #[], .func (.func 198) #[] #[], .func (.func 198) #[] #[], .func (.func 198) #[] #[], .func (.func 199) #[] #[]] u v) → W.cell? ⟨w.heap.size, 0, none⟩ = some (.int .i64 n) := fun W hW => by obtain ⟨_, _, hP⟩ := hW; exact hP.z.cell 0
  have g1 : ∀ W, (∃ u v, P4 w W (.int .i64 n) (.slice a m ca) #[.int .i64 5, .int .i64 x, .int .i64 y, .int .i64 c, .int .i64 d] #[.nilFunc, .func (.func 198) #[] #[], .func (.func 198) #[] #[], .func (.func 198) #[] #[], .func (.func 198) #[] #[], .func (.func 199) #[] #[]] u v) → W.cell? ⟨w.heap.size, 1, none⟩ = some (.slice a m ca) := fun W hW => by obtain ⟨_, _, hP⟩ := hW; exact hP.z.cell 1
  have gt : ∀ W, (∃ u v, P4 w W (.int .i64 n) (.slice a m ca) #[.int .i64 5, .int .i64 x, .int .i64 y, .int .i64 c, .int .i64 d] #[.nilFunc, .func (.func 198) #[] #[], .func (.func 198) #[] #[], .func (.func 198) #[] #[], .func (.func 198) #[] #[], .func (.func 199) #[] #[]] u v) → W.cell? ⟨w.heap.size + 2, 5, none⟩ = some (.func (.func 199) #[] #[]) := fun W hW => by obtain ⟨_, _, hP⟩ := hW; exact hP.t.cell 5
  have r0 : ∀ W, (∃ u v, P4 w W (.int .i64 n) (.slice a m ca) #[.int .i64 5, .int .i64 x, .int .i64 y, .int .i64 c, .int .i64 d] #[.nilFunc, .func (.func 198) #[] #[], .func (.func 198) #[] #[], .func (.func 198) #[] #[], .func (.func 198) #[] #[], .func (.func 199) #[] #[]] u v) → W.cell? ⟨w.heap.size + 1, 0, none⟩ = some (.int .i64 5) := fun W hW => by obtain ⟨_, _, hP⟩ := hW; exact hP.s.cell 0
  have r1 : ∀ W, (∃ u v, P4 w W (.int .i64 n) (.slice a m ca) #[.int .i64 5, .int .i64 x, .int .i64 y, .int .i64 c, .int .i64 d] #[.nilFunc, .func (.func 198) #[] #[], .func (.func 198) #[] #[], .func (.func 198) #[] #[], .func (.func 198) #[] #[], .func (.func 199) #[] #[]] u v) → W.cell? ⟨w.heap.size + 1, 1, none⟩ = some (.int .i64 x) := fun W hW => by obtain ⟨_, _, hP⟩ := hW; exact hP.s.cell 1
  have r2 : ∀ W, (∃ u v, P4 w W (.int .i64 n) (.slice a m ca) #[.int .i64 5, .int .i64 x, .int .i64 y, .int .i64 c, .int .i64 d] #[.nilFunc, .func (.func 198) #[] #[], .func (.func 198) #[] #[], .func (.func 198) #[] #[], .func (.func 198) #[] #[], .func (.func 199) #[] #[]] u v) → W.cell? ⟨w.heap.size + 1, 2, none⟩ = some (.int .i64 y) := fun W hW => by obtain ⟨_, _, hP⟩ := hW; exact hP.s.cell 2
  have r3 : ∀ W, (∃ u v, P4 w W (.int .i64 n) (.slice a m ca) #[.int .i64 5, .int .i64 x, .int .i64 y, .int .i64 c, .int .i64 d] #[.nilFunc, .func (.func 198) #[] #[], .func (.func 198) #[] #[], .func (.func 198) #[] #[], .func (.func 198) #[] #[], .func (.func 199) #[] #[]] u v) → W.cell? ⟨w.heap.size + 1, 3, none⟩ = some (.int .i64 c) := fun W hW => by obtain ⟨_, _, hP⟩ := hW; exact hP.s.cell 3
  have r4 : ∀ W, (∃ u v, P4 w W (.int .i64 n) (.slice a m ca) #[.int .i64 5, .int .i64 x, .int .i64 y, .int .i64 c, .int .i64 d] #[.nilFunc, .func (.func 198) #[] #[], .func (.func 198) #[] #[], .func (.func 198) #[] #[], .func (.func 198) #[] #[], .func (.func 199) #[] #[]] u v) → W.cell? ⟨w.heap.size + 1, 4, none⟩ = some (.int .i64 d) := fun W hW => by obtain ⟨_, _, hP⟩ := hW; exact hP.s.cell 4
  clear D
  refine wp_drawn_on (fun W => ∃ u v, P4 w W (.int .i64 n) (.slice a m ca) #[.int .i64 5, .int .i64 x, .int .i64 y, .int .i64 c, .int .i64 d] #[.nilFunc, .func (.func 198) #[] #[], .func (.func 198) #[] #[], .func (.func 198) #[] #[], .func (.func 198) #[] #[], .func (.func 199) #[] #[]] u v) (by kernel_rfl) (⟨_, _, X3.out.on (Below.refl _ _).drew⟩) (fun hHeld => ?_)
  refine wpAnyH_take (i := 0) (oi := { dst := some 18, op := Go.Op.fieldAddr 73 (Go.Operand.tmp 4) 0, type := 0, pos := "post.go:66", after := #[], guard := none }) (v := ?v82) rfl (by kernel_rfl) (by kernel_rfl) (by kernel_rfl) (fun _ _ _ h => h) (Or.inl ⟨by kernel_rfl, ?h82⟩) (by assumption) ?r82
  case h82 => (intro w hSw; (try dsimp only at hSw); go_simp; try with_reducible rfl)
  try simp only [Act.put, List.setIfInBounds_toArray, List.set_cons_zero, List.set_cons_succ]
  refine wpAnyH_take (i := 1) (oi := { dst := some 19, op := Go.Op.load 3 (Go.Operand.tmp 18), type := 3, pos := "post.go:66", after := #[{ on := 0, ground := Go.Ground.data }], guard := none }) (v := ?v83) rfl (by kernel_rfl) (by kernel_rfl) (by kernel_rfl) (fun _ _ _ h => h) (Or.inl ⟨by kernel_rfl, ?h83⟩) (by assumption) ?r83
  case h83 => (intro w hSw; (try dsimp only at hSw); go_simp; try with_reducible rfl)
  try simp only [Act.put, List.setIfInBounds_toArray, List.set_cons_zero, List.set_cons_succ]
  refine wpAnyH_take (i := 2) (oi := { dst := some 20, op := Go.Op.indexAddr 167 (Go.Operand.tmp 5) (Go.Operand.tmp 19), type := 0, pos := "post.go:66", after := #[{ on := 1, ground := Go.Ground.data }], guard := none }) (v := ?v84) rfl (by kernel_rfl) (by kernel_rfl) (by kernel_rfl) (fun _ _ _ h => h) (Or.inl ⟨by kernel_rfl, ?h84⟩) (by assumption) ?r84
  case h84 => (intro w hSw; (try dsimp only at hSw); go_simp; try with_reducible rfl)
  try simp only [Act.put, List.setIfInBounds_toArray, List.set_cons_zero, List.set_cons_succ]
  refine wpAnyH_take (i := 3) (oi := { dst := some 21, op := Go.Op.load 166 (Go.Operand.tmp 20), type := 166, pos := "post.go:66", after := #[{ on := 2, ground := Go.Ground.data }], guard := none }) (v := ?v85) rfl (by kernel_rfl) (by kernel_rfl) (by kernel_rfl) (fun _ _ _ h => h) (Or.inl ⟨by kernel_rfl, ?h85⟩) (by assumption) ?r85
  case h85 => (intro w hSw; (try dsimp only at hSw); go_simp; try with_reducible rfl)
  try simp only [Act.put, List.setIfInBounds_toArray, List.set_cons_zero, List.set_cons_succ]
  refine wpAnyH_take (i := 4) (oi := { dst := some 22, op := Go.Op.load 51 (Go.Operand.tmp 3), type := 51, pos := "post.go:66", after := #[], guard := none }) (v := ?v86) rfl (by kernel_rfl) (by kernel_rfl) (by kernel_rfl) (fun _ _ _ h => h) (Or.inl ⟨by kernel_rfl, ?h86⟩) (by assumption) ?r86
  case h86 => (intro w hSw; (try dsimp only at hSw); go_simp; try with_reducible rfl)
  try simp only [Act.put, List.setIfInBounds_toArray, List.set_cons_zero, List.set_cons_succ]
  refine wpAnyH_take (i := 5) (oi := { dst := some 23, op := Go.Op.load 73 (Go.Operand.tmp 4), type := 73, pos := "post.go:66", after := #[], guard := none }) (v := ?v87) rfl (by kernel_rfl) (by kernel_rfl) (by kernel_rfl) (fun _ _ _ h => h) (Or.inl ⟨by kernel_rfl, ?h87⟩) (by assumption) ?r87
  case h87 => (intro w hSw; (try dsimp only at hSw); go_simp; try with_reducible rfl)
  try simp only [Act.put, List.setIfInBounds_toArray, List.set_cons_zero, List.set_cons_succ]
  refine wpAnyH_ready (rs := [6]) (by kernel_rfl) (by simp) ?_
  refine AllReadyH.cons (o := { dst := some 24, op := Go.Op.call { callee := Go.Callee.value (Go.Operand.tmp 21), args := #[Go.Operand.tmp 22, Go.Operand.tmp 23], argTypes := #[51, 73] }, type := 126, pos := "post.go:66", after := #[{ on := 3, ground := Go.Ground.data }, { on := 4, ground := Go.Ground.data }, { on := 5, ground := Go.Ground.data }], guard := none }) rfl (fun K hK => ?_) AllReadyH.nil
  go_simp
  refine (hq'.out _ (hS.out.below (X3.out.on (Below.refl _ _).drew).bl)).mono ?_
  rintro e u6 ⟨a7, c7, rfl, hc7, s7, b7, nw7⟩
  have Q6 := (X3.out.on (Below.refl _ _).drew).on b7
  have hx6 : ∃ u v, P4 w u6 (.int .i64 n) (.slice a m ca) #[.int .i64 5, .int .i64 x, .int .i64 y, .int .i64 c, .int .i64 d] #[.nilFunc, .func (.func 198) #[] #[], .func (.func 198) #[] #[], .func (.func 198) #[] #[], .func (.func 198) #[] #[], .func (.func 199) #[] #[]] u v := ⟨_, _, Q6⟩
  have y0 := Q6.r.cell 0
  have y1 := Q6.r.cell 1
  have f0 := Q6.r.free 0
  have f1 := Q6.r.free 1
  go_simp
  refine hK.out _ _ (hx6) (fun hHeld => ?_)
  clear hK K
  try simp only [Act.put, List.setIfInBounds_toArray, List.set_cons_zero, List.set_cons_succ]
  refine wpAnyH_take (i := 7) (oi := { dst := some 25, op := Go.Op.extract (Go.Operand.tmp 24) 0, type := 51, pos := "post.go:66", after := #[{ on := 6, ground := Go.Ground.data }], guard := none }) (v := ?v88) rfl (by kernel_rfl) (by kernel_rfl) (by kernel_rfl) (fun _ _ _ h => h) (Or.inl ⟨by kernel_rfl, ?h88⟩) (by assumption) ?r88
  case h88 => (intro w hSw; (try dsimp only at hSw); go_simp; try with_reducible rfl)
  try simp only [Act.put, List.setIfInBounds_toArray, List.set_cons_zero, List.set_cons_succ]
  refine wpAnyH_take (i := 8) (oi := { dst := some 26, op := Go.Op.extract (Go.Operand.tmp 24) 1, type := 27, pos := "post.go:66", after := #[{ on := 6, ground := Go.Ground.data }], guard := none }) (v := ?v89) rfl (by kernel_rfl) (by kernel_rfl) (by kernel_rfl) (fun _ _ _ h => h) (Or.inl ⟨by kernel_rfl, ?h89⟩) (by assumption) ?r89
  case h89 => (intro w hSw; (try dsimp only at hSw); go_simp; try with_reducible rfl)
  try simp only [Act.put, List.setIfInBounds_toArray, List.set_cons_zero, List.set_cons_succ]
  refine wpAnyH_ready (rs := [9]) (by kernel_rfl) (by simp) ?_
  refine AllReadyH.cons (o := { dst := none, op := Go.Op.store 51 (Go.Operand.tmp 6) (Go.Operand.tmp 25), type := 0, pos := "post.go:66", after := #[{ on := 7, ground := Go.Ground.data }, { on := 6, ground := Go.Ground.chain }, { on := 0, ground := Go.Ground.phase }, { on := 1, ground := Go.Ground.phase }, { on := 2, ground := Go.Ground.phase }, { on := 3, ground := Go.Ground.phase }, { on := 4, ground := Go.Ground.phase }, { on := 5, ground := Go.Ground.phase }, { on := 6, ground := Go.Ground.phase }, { on := 7, ground := Go.Ground.phase }, { on := 8, ground := Go.Ground.phase }], guard := none }) rfl (fun K hK => ?_) AllReadyH.nil
  go_simp
  have hx9 : ∃ u v, P4 w ((u6.setCell ⟨w.heap.size + 3, 0, none⟩ (.int .i64 n)).setCell ⟨w.heap.size + 3, 1, none⟩ (.slice a7 R.length c7)) (.int .i64 n) (.slice a m ca) #[.int .i64 5, .int .i64 x, .int .i64 y, .int .i64 c, .int .i64 d] #[.nilFunc, .func (.func 198) #[] #[], .func (.func 198) #[] #[], .func (.func 198) #[] #[], .func (.func 198) #[] #[], .func (.func 199) #[] #[]] u v := ⟨_, _, ⟨(Q6.bl.setCell (p := ⟨w.heap.size + 3, 0, none⟩) (by show w.heap.size ≤ w.heap.size + 3; omega) _).setCell (p := ⟨w.heap.size + 3, 1, none⟩) (by show w.heap.size ≤ w.heap.size + 3; omega) _, (Q6.z.far (p := ⟨w.heap.size + 3, 0, none⟩) (by simp) _).far (p := ⟨w.heap.size + 3, 1, none⟩) (by simp) _, (Q6.s.far (p := ⟨w.heap.size + 3, 0, none⟩) (by simp) _).far (p := ⟨w.heap.size + 3, 1, none⟩) (by simp) _, (Q6.t.far (p := ⟨w.heap.size + 3, 0, none⟩) (by simp) _).far (p := ⟨w.heap.size + 3, 1, none⟩) (by simp) _, zh_set Q6.r _ _⟩⟩
  refine hK.out _ _ (hx9) (fun hHeld => ?_)
  clear hK K
  try simp only [Act.put, List.setIfInBounds_toArray, List.set_cons_zero, List.set_cons_succ]
  refine wpAnyH_take (i := 10) (oi := { dst := some 7, op := Go.Op.assign (Go.Operand.tmp 26), type := 27, pos := "post.go:66", after := #[{ on := 8, ground := Go.Ground.data }, { on := 9, ground := Go.Ground.chain }, { on := 0, ground := Go.Ground.phase }, { on := 1, ground := Go.Ground.phase }, { on := 2, ground := Go.Ground.phase }, { on := 3, ground := Go.Ground.phase }, { on := 4, ground := Go.Ground.phase }, { on := 5, ground := Go.Ground.phase }, { on := 6, ground := Go.Ground.phase }, { on := 7, ground := Go.Ground.phase }, { on := 8, ground := Go.Ground.phase }, { on := 9, ground := Go.Ground.phase }], guard := none }) (v := ?v90) rfl (by kernel_rfl) (by kernel_rfl) (by kernel_rfl) (fun _ _ _ h => h) (Or.inl ⟨by kernel_rfl, ?h90⟩) (by assumption) ?r90
  case h90 => (intro w hSw; (try dsimp only at hSw); go_simp; try with_reducible rfl)
  try simp only [Act.put, List.setIfInBounds_toArray, List.set_cons_zero, List.set_cons_succ]
  refine wpAnyH_done (by kernel_rfl) ?_ _
  have hfin := Lib.hid (zone_put (n := n) (err := 0) (X3.out.on (Below.refl _ _).drew).bl (by omega) (X3.out.on (Below.refl _ _).drew).r hc7 s7 b7 nw7)
  clear g0 g1 gt r0 r1 r2 r3 r4 y0 y1 f0 f1 hx6 hx9 hHeld Q6
  go_wp2
  exact zone_ret2 hfin.out.1 hfin.out.2.1 _ _ 6 7 rfl rfl rfl rfl
set_option maxRecDepth 100000 in
set_option maxHeartbeats 400000 in
theorem Post_of (n k x y c d nr E : Int) (R : List Int) (a : Option Addr) (m ca : Nat) (w : World) (hq : ∀ W, Below w.heap.size w W → Calls Tryz.prog 144 #[.agg #[.int .i64 n, .slice a m ca], .agg #[.int .i64 k, .int .i64 x, .int .i64 y, .int .i64 c, .int .i64 d], .agg #[.nilFunc, .func (.func 184) #[] #[], .func (.func 185) #[] #[], .func (.func 186) #[] #[], .func (.func 187) #[] #[], .func (.func 187) #[] #[]]] W (ZoneE nr R E W)) : Calls Tryz.prog 100 #[.agg #[.int .i64 n, .slice a m ca], .agg #[.int .i64 k, .int .i64 x, .int .i64 y, .int .i64 c, .int .i64 d]] w (ZoneE nr R E w) := by
  obtain ⟨W1, hW1⟩ : ∃ W1, W1 = ((w.alloc (.cells #[.int .i64 n, .slice a m ca] 51)).alloc (.cells #[.int .i64 k, .int .i64 x, .int .i64 y, .int .i64 c, .int .i64 d] 73)).alloc (.cells #[.int .i64 0, .slice none 0 0] 51) := ⟨_, rfl⟩
  have X1 : P3 w W1 (.int .i64 n) (.slice a m ca) #[.int .i64 k, .int .i64 x, .int .i64 y, .int .i64 c, .int .i64 d] (.int .i64 0) (.slice none 0 0) := by rw [hW1]; exact p3_new _ _ _ _
  have hW1' := Lib.hid hW1
  have XP := Lib.hid X1
  have hq' := Lib.hid hq
  clear hW1 X1 hq
  go_enter Tryz.func100, Tryz.ntmps100
  go_wp2
  rw [← hW1'.out]
  have g0 : ∀ W, (∃ u v, P3 w W (.int .i64 n) (.slice a m ca) #[.int .i64 k, .int .i64 x, .int .i64 y, .int .i64 c, .int .i64 d] u v) → W.cell? ⟨w.heap.size, 0, none⟩ = some (.int .i64 n) := fun W hW => by obtain ⟨_, _, hP⟩ := hW; exact hP.z.cell 0
  have g1 : ∀ W, (∃ u v, P3 w W (.int .i64 n) (.slice a m ca) #[.int .i64 k, .int .i64 x, .int .i64 y, .int .i64 c, .int .i64 d] u v) → W.cell? ⟨w.heap.size, 1, none⟩ = some (.slice a m ca) := fun W hW => by obtain ⟨_, _, hP⟩ := hW; exact hP.z.cell 1
  have r0 : ∀ W, (∃ u v, P3 w W (.int .i64 n) (.slice a m ca) #[.int .i64 k, .int .i64 x, .int .i64 y, .int .i64 c, .int .i64 d] u v) → W.cell? ⟨w.heap.size + 1, 0, none⟩ = some (.int .i64 k) := fun W hW => by obtain ⟨_, _, hP⟩ := hW; exact hP.s.cell 0
  have r1 : ∀ W, (∃ u v, P3 w W (.int .i64 n) (.slice a m ca) #[.int .i64 k, .int .i64 x, .int .i64 y, .int .i64 c, .int .i64 d] u v) → W.cell? ⟨w.heap.size + 1, 1, none⟩ = some (.int .i64 x) := fun W hW => by obtain ⟨_, _, hP⟩ := hW; exact hP.s.cell 1
  have r2 : ∀ W, (∃ u v, P3 w W (.int .i64 n) (.slice a m ca) #[.int .i64 k, .int .i64 x, .int .i64 y, .int .i64 c, .int .i64 d] u v) → W.cell? ⟨w.heap.size + 1, 2, none⟩ = some (.int .i64 y) := fun W hW => by obtain ⟨_, _, hP⟩ := hW; exact hP.s.cell 2
  have r3 : ∀ W, (∃ u v, P3 w W (.int .i64 n) (.slice a m ca) #[.int .i64 k, .int .i64 x, .int .i64 y, .int .i64 c, .int .i64 d] u v) → W.cell? ⟨w.heap.size + 1, 3, none⟩ = some (.int .i64 c) := fun W hW => by obtain ⟨_, _, hP⟩ := hW; exact hP.s.cell 3
  have r4 : ∀ W, (∃ u v, P3 w W (.int .i64 n) (.slice a m ca) #[.int .i64 k, .int .i64 x, .int .i64 y, .int .i64 c, .int .i64 d] u v) → W.cell? ⟨w.heap.size + 1, 4, none⟩ = some (.int .i64 d) := fun W hW => by obtain ⟨_, _, hP⟩ := hW; exact hP.s.cell 4
  refine wp_drawn_on (fun W => ∃ u v, P3 w W (.int .i64 n) (.slice a m ca) #[.int .i64 k, .int .i64 x, .int .i64 y, .int .i64 c, .int .i64 d] u v) (by kernel_rfl) (⟨_, _, XP.out.on (Below.refl _ _).drew⟩) (fun hHeld => ?_)
  refine wpAnyH_take (i := 0) (oi := { dst := some 6, op := Go.Op.load 51 (Go.Operand.tmp 2), type := 51, pos := "post.go:70", after := #[], guard := none }) (v := ?v91) rfl (by kernel_rfl) (by kernel_rfl) (by kernel_rfl) (fun _ _ _ h => h) (Or.inl ⟨by kernel_rfl, ?h91⟩) (by assumption) ?r91
  case h91 => (intro w hSw; (try dsimp only at hSw); go_simp; try with_reducible rfl)
  try simp only [Act.put, List.setIfInBounds_toArray, List.set_cons_zero, List.set_cons_succ]
  refine wpAnyH_take (i := 1) (oi := { dst := some 7, op := Go.Op.load 73 (Go.Operand.tmp 3), type := 73, pos := "post.go:70", after := #[], guard := none }) (v := ?v92) rfl (by kernel_rfl) (by kernel_rfl) (by kernel_rfl) (fun _ _ _ h => h) (Or.inl ⟨by kernel_rfl, ?h92⟩) (by assumption) ?r92
  case h92 => (intro w hSw; (try dsimp only at hSw); go_simp; try with_reducible rfl)
  try simp only [Act.put, List.setIfInBounds_toArray, List.set_cons_zero, List.set_cons_succ]
  refine wpAnyH_ready (rs := [2]) (by kernel_rfl) (by simp) ?_
  refine AllReadyH.cons (o := { dst := some 8, op := Go.Op.call { callee := Go.Callee.value (Go.Operand.func 145), args := #[], argTypes := #[] }, type := 167, pos := "post.go:70", after := #[], guard := none }) rfl (fun K hK => ?_) AllReadyH.nil
  go_simp
  refine (steps_any _).mono ?_
  rintro e u2 ⟨rfl, b2⟩
  have Q2 := (XP.out.on (Below.refl _ _).drew).on b2
  have hx2 : ∃ u v, P3 w u2 (.int .i64 n) (.slice a m ca) #[.int .i64 k, .int .i64 x, .int .i64 y, .int .i64 c, .int .i64 d] u v := ⟨_, _, Q2⟩
  go_simp
  refine hK.out _ _ (hx2) (fun hHeld => ?_)
  clear hK K
  try simp only [Act.put, List.setIfInBounds_toArray, List.set_cons_zero, List.set_cons_succ]
  refine wpAnyH_ready (rs := [3]) (by kernel_rfl) (by simp) ?_
  refine AllReadyH.cons (o := { dst := some 9, op := Go.Op.call { callee := Go.Callee.value (Go.Operand.func 144), args := #[Go.Operand.tmp 6, Go.Operand.tmp 7, Go.Operand.tmp 8], argTypes := #[51, 73, 167] }, type := 126, pos := "post.go:70", after := #[{ on := 0, ground := Go.Ground.data }, { on := 1, ground := Go.Ground.data }, { on := 2, ground := Go.Ground.data }, { on := 2, ground := Go.Ground.chain }], guard := none }) rfl (fun K hK => ?_) AllReadyH.nil
  go_simp
  refine (hq'.out _ Q2.bl).mono ?_
  rintro e u6 ⟨a7, c7, rfl, hc7, s7, b7, nw7⟩
  have Q6 := Q2.on b7
  have hx6 : ∃ u v, P3 w u6 (.int .i64 n) (.slice a m ca) #[.int .i64 k, .int .i64 x, .int .i64 y, .int .i64 c, .int .i64 d] u v := ⟨_, _, Q6⟩
  have y0 := Q6.r.cell 0
  have y1 := Q6.r.cell 1
  have f0 := Q6.r.free 0
  have f1 := Q6.r.free 1
  go_simp
  refine hK.out _ _ (hx6) (fun hHeld => ?_)
  clear hK K
  try simp only [Act.put, List.setIfInBounds_toArray, List.set_cons_zero, List.set_cons_succ]
  refine wpAnyH_take (i := 4) (oi := { dst := some 10, op := Go.Op.extract (Go.Operand.tmp 9) 0, type := 51, pos := "post.go:70", after := #[{ on := 3, ground := Go.Ground.data }], guard := none }) (v := ?v93) rfl (by kernel_rfl) (by kernel_rfl) (by kernel_rfl) (fun _ _ _ h => h) (Or.inl ⟨by kernel_rfl, ?h93⟩) (by assumption) ?r93
  case h93 => (intro w hSw; (try dsimp only at hSw); go_simp; try with_reducible rfl)
  try simp only [Act.put, List.setIfInBounds_toArray, List.set_cons_zero, List.set_cons_succ]
  refine wpAnyH_take (i := 5) (oi := { dst := some 11, op := Go.Op.extract (Go.Operand.tmp 9) 1, type := 27, pos := "post.go:70", after := #[{ on := 3, ground := Go.Ground.data }], guard := none }) (v := ?v94) rfl (by kernel_rfl) (by kernel_rfl) (by kernel_rfl) (fun _ _ _ h => h) (Or.inl ⟨by kernel_rfl, ?h94⟩) (by assumption) ?r94
  case h94 => (intro w hSw; (try dsimp only at hSw); go_simp; try with_reducible rfl)
  try simp only [Act.put, List.setIfInBounds_toArray, List.set_cons_zero, List.set_cons_succ]
  refine wpAnyH_ready (rs := [6]) (by kernel_rfl) (by simp) ?_
  refine AllReadyH.cons (o := { dst := none, op := Go.Op.store 51 (Go.Operand.tmp 4) (Go.Operand.tmp 10), type := 0, pos := "post.go:70", after := #[{ on := 4, ground := Go.Ground.data }, { on := 3, ground := Go.Ground.chain }, { on := 0, ground := Go.Ground.phase }, { on := 1, ground := Go.Ground.phase }, { on := 2, ground := Go.Ground.phase }, { on := 3, ground := Go.Ground.phase }, { on := 4, ground := Go.Ground.phase }, { on := 5, ground := Go.Ground.phase }], guard := none }) rfl (fun K hK => ?_) AllReadyH.nil
  go_simp
  have hx9 : ∃ u v, P3 w ((u6.setCell ⟨w.heap.size + 2, 0, none⟩ (.int .i64 nr)).setCell ⟨w.heap.size + 2, 1, none⟩ (.slice a7 R.length c7)) (.int .i64 n) (.slice a m ca) #[.int .i64 k, .int .i64 x, .int .i64 y, .int .i64 c, .int .i64 d] u v := ⟨_, _, ⟨(Q6.bl.setCell (p := ⟨w.heap.size + 2, 0, none⟩) (by show w.heap.size ≤ w.heap.size + 2; omega) _).setCell (p := ⟨w.heap.size + 2, 1, none⟩) (by show w.heap.size ≤ w.heap.size + 2; omega) _, (Q6.z.far (p := ⟨w.heap.size + 2, 0, none⟩) (by simp) _).far (p := ⟨w.heap.size + 2, 1, none⟩) (by simp) _, (Q6.s.far (p := ⟨w.heap.size + 2, 0, none⟩) (by simp) _).far (p := ⟨w.heap.size + 2, 1, none⟩) (by simp) _, zh_set Q6.r _ _⟩⟩
  refine hK.out _ _ (hx9) (fun hHeld => ?_)
  clear hK K
  try simp only [Act.put, List.setIfInBounds_toArray, List.set_cons_zero, List.set_cons_succ]
  refine wpAnyH_take (i := 7) (oi := { dst := some 5, op := Go.Op.assign (Go.Operand.tmp 11), type := 27, pos := "post.go:70", after := #[{ on := 5, ground := Go.Ground.data }, { on := 6, ground := Go.Ground.chain }, { on := 0, ground := Go.Ground.phase }, { on := 1, ground := Go.Ground.phase }, { on := 2, ground := Go.Ground.phase }, { on := 3, ground := Go.Ground.phase }, { on := 4, ground := Go.Ground.phase }, { on := 5, ground := Go.Ground.phase }, { on := 6, ground := Go.Ground.phase }], guard := none }) (v := ?v95) rfl (by kernel_rfl) (by kernel_rfl) (by kernel_rfl) (fun _ _ _ h => h) (Or.inl ⟨by kernel_rfl, ?h95⟩) (by assumption) ?r95
  case h95 => (intro w hSw; (try dsimp only at hSw); go_simp; try with_reducible rfl)
  try simp only [Act.put, List.setIfInBounds_toArray, List.set_cons_zero, List.set_cons_succ]
  refine wpAnyH_done (by kernel_rfl) ?_ _
  have hfin := Lib.hid (zone_put (n := nr) (err := E) Q2.bl (by omega) Q2.r hc7 s7 b7 nw7)
  clear g0 g1 r0 r1 r2 r3 r4 y0 y1 f0 f1 hx6 hx9 hx2 hHeld Q6 Q2
  go_wp2
  exact zone_ret2 hfin.out.1 hfin.out.2.1 _ _ 4 5 rfl rfl rfl rfl
set_option maxRecDepth 100000 in
set_option maxHeartbeats 400000 in
theorem Fault_of (n k x y c d nr E : Int) (R : List Int) (a : Option Addr) (m ca : Nat) (w : World) (hq : ∀ W, Below w.heap.size w W → Calls Tryz.prog 144 #[.agg #[.int .i64 n, .slice a m ca], .agg #[.int .i64 k, .int .i64 x, .int .i64 y, .int .i64 c, .int .i64 d], .agg #[.nilFunc, .func (.func 198) #[] #[], .func (.func 198) #[] #[], .func (.func 198) #[] #[], .func (.func 198) #[] #[], .func (.func 199) #[] #[]]] W (ZoneE nr R E W)) : Calls Tryz.prog 134 #[.agg #[.int .i64 n, .slice a m ca], .agg #[.int .i64 k, .int .i64 x, .int .i64 y, .int .i64 c, .int .i64 d]] w (ZoneE nr R E w) := by
  obtain ⟨W1, hW1⟩ : ∃ W1, W1 = ((w.alloc (.cells #[.int .i64 n, .slice a m ca] 51)).alloc (.cells #[.int .i64 k, .int .i64 x, .int .i64 y, .int .i64 c, .int .i64 d] 73)).alloc (.cells #[.int .i64 0, .slice none 0 0] 51) := ⟨_, rfl⟩
  have X1 : P3 w W1 (.int .i64 n) (.slice a m ca) #[.int .i64 k, .int .i64 x, .int .i64 y, .int .i64 c, .int .i64 d] (.int .i64 0) (.slice none 0 0) := by rw [hW1]; exact p3_new _ _ _ _
  have hW1' := Lib.hid hW1
  have XP := Lib.hid X1
  have hq' := Lib.hid hq
  clear hW1 X1 hq
  go_enter Tryz.func134, Tryz.ntmps134
  go_wp2
  rw [← hW1'.out]
  have g0 : ∀ W, (∃ u v, P3 w W (.int .i64 n) (.slice a m ca) #[.int .i64 k, .int .i64 x, .int .i64 y, .int .i64 c, .int .i64 d] u v) → W.cell? ⟨w.heap.size, 0, none⟩ = some (.int .i64 n) := fun W hW => by obtain ⟨_, _, hP⟩ := hW; exact hP.z.cell 0
  have g1 : ∀ W, (∃ u v, P3 w W (.int .i64 n) (.slice a m ca) #[.int .i64 k, .int .i64 x, .int .i64 y, .int .i64 c, .int .i64 d] u v) → W.cell? ⟨w.heap.size, 1, none⟩ = some (.slice a m ca) := fun W hW => by obtain ⟨_, _, hP⟩ := hW; exact hP.z.cell 1
  have r0 : ∀ W, (∃ u v, P3 w W (.int .i64 n) (.slice a m ca) #[.int .i64 k, .int .i64 x, .int .i64 y, .int .i64 c, .int .i64 d] u v) → W.cell? ⟨w.heap.size + 1, 0, none⟩ = some (.int .i64 k) := fun W hW => by obtain ⟨_, _, hP⟩ := hW; exact hP.s.cell 0
  have r1 : ∀ W, (∃ u v, P3 w W (.int .i64 n) (.slice a m ca) #[.int .i64 k, .int .i64 x, .int .i64 y, .int .i64 c, .int .i64 d] u v) → W.cell? ⟨w.heap.size + 1, 1, none⟩ = some (.int .i64 x) := fun W hW => by obtain ⟨_, _, hP⟩ := hW; exact hP.s.cell 1
  have r2 : ∀ W, (∃ u v, P3 w W (.int .i64 n) (.slice a m ca) #[.int .i64 k, .int .i64 x, .int .i64 y, .int .i64 c, .int .i64 d] u v) → W.cell? ⟨w.heap.size + 1, 2, none⟩ = some (.int .i64 y) := fun W hW => by obtain ⟨_, _, hP⟩ := hW; exact hP.s.cell 2
  have r3 : ∀ W, (∃ u v, P3 w W (.int .i64 n) (.slice a m ca) #[.int .i64 k, .int .i64 x, .int .i64 y, .int .i64 c, .int .i64 d] u v) → W.cell? ⟨w.heap.size + 1, 3, none⟩ = some (.int .i64 c) := fun W hW => by obtain ⟨_, _, hP⟩ := hW; exact hP.s.cell 3
  have r4 : ∀ W, (∃ u v, P3 w W (.int .i64 n) (.slice a m ca) #[.int .i64 k, .int .i64 x, .int .i64 y, .int .i64 c, .int .i64 d] u v) → W.cell? ⟨w.heap.size + 1, 4, none⟩ = some (.int .i64 d) := fun W hW => by obtain ⟨_, _, hP⟩ := hW; exact hP.s.cell 4
  refine wp_drawn_on (fun W => ∃ u v, P3 w W (.int .i64 n) (.slice a m ca) #[.int .i64 k, .int .i64 x, .int .i64 y, .int .i64 c, .int .i64 d] u v) (by kernel_rfl) (⟨_, _, XP.out.on (Below.refl _ _).drew⟩) (fun hHeld => ?_)
  refine wpAnyH_take (i := 0) (oi := { dst := some 6, op := Go.Op.load 51 (Go.Operand.tmp 2), type := 51, pos := "post.go:73", after := #[], guard := none }) (v := ?v96) rfl (by kernel_rfl) (by kernel_rfl) (by kernel_rfl) (fun _ _ _ h => h) (Or.inl ⟨by kernel_rfl, ?h96⟩) (by assumption) ?r96
  case h96 => (intro w hSw; (try dsimp only at hSw); go_simp; try with_reducible rfl)
  try simp only [Act.put, List.setIfInBounds_toArray, List.set_cons_zero, List.set_cons_succ]
  refine wpAnyH_take (i := 1) (oi := { dst := some 7, op := Go.Op.load 73 (Go.Operand.tmp 3), type := 73, pos := "post.go:73", after := #[], guard := none }) (v := ?v97) rfl (by kernel_rfl) (by kernel_rfl) (by kernel_rfl) (fun _ _ _ h => h) (Or.inl ⟨by kernel_rfl, ?h97⟩) (by assumption) ?r97
  case h97 => (intro w hSw; (try dsimp only at hSw); go_simp; try with_reducible rfl)
  try simp only [Act.put, List.setIfInBounds_toArray, List.set_cons_zero, List.set_cons_succ]
  refine wpAnyH_ready (rs := [2]) (by kernel_rfl) (by simp) ?_
  refine AllReadyH.cons (o := { dst := some 8, op := Go.Op.call { callee := Go.Callee.value (Go.Operand.func 173), args := #[], argTypes := #[] }, type := 167, pos := "post.go:73", after := #[], guard := none }) rfl (fun K hK => ?_) AllReadyH.nil
  go_simp
  refine (faults_any _).mono ?_
  rintro e u2 ⟨rfl, b2⟩
  have Q2 := (XP.out.on (Below.refl _ _).drew).on b2
  have hx2 : ∃ u v, P3 w u2 (.int .i64 n) (.slice a m ca) #[.int .i64 k, .int .i64 x, .int .i64 y, .int .i64 c, .int .i64 d] u v := ⟨_, _, Q2⟩
  go_simp
  refine hK.out _ _ (hx2) (fun hHeld => ?_)
  clear hK K
  try simp only [Act.put, List.setIfInBounds_toArray, List.set_cons_zero, List.set_cons_succ]
  refine wpAnyH_ready (rs := [3]) (by kernel_rfl) (by simp) ?_
  refine AllReadyH.cons (o := { dst := some 9, op := Go.Op.call { callee := Go.Callee.value (Go.Operand.func 144), args := #[Go.Operand.tmp 6, Go.Operand.tmp 7, Go.Operand.tmp 8], argTypes := #[51, 73, 167] }, type := 126, pos := "post.go:73", after := #[{ on := 0, ground := Go.Ground.data }, { on := 1, ground := Go.Ground.data }, { on := 2, ground := Go.Ground.data }, { on := 2, ground := Go.Ground.chain }], guard := none }) rfl (fun K hK => ?_) AllReadyH.nil
  go_simp
  refine (hq'.out _ Q2.bl).mono ?_
  rintro e u6 ⟨a7, c7, rfl, hc7, s7, b7, nw7⟩
  have Q6 := Q2.on b7
  have hx6 : ∃ u v, P3 w u6 (.int .i64 n) (.slice a m ca) #[.int .i64 k, .int .i64 x, .int .i64 y, .int .i64 c, .int .i64 d] u v := ⟨_, _, Q6⟩
  have y0 := Q6.r.cell 0
  have y1 := Q6.r.cell 1
  have f0 := Q6.r.free 0
  have f1 := Q6.r.free 1
  go_simp
  refine hK.out _ _ (hx6) (fun hHeld => ?_)
  clear hK K
  try simp only [Act.put, List.setIfInBounds_toArray, List.set_cons_zero, List.set_cons_succ]
  refine wpAnyH_take (i := 4) (oi := { dst := some 10, op := Go.Op.extract (Go.Operand.tmp 9) 0, type := 51, pos := "post.go:73", after := #[{ on := 3, ground := Go.Ground.data }], guard := none }) (v := ?v98) rfl (by kernel_rfl) (by kernel_rfl) (by kernel_rfl) (fun _ _ _ h => h) (Or.inl ⟨by kernel_rfl, ?h98⟩) (by assumption) ?r98
  case h98 => (intro w hSw; (try dsimp only at hSw); go_simp; try with_reducible rfl)
  try simp only [Act.put, List.setIfInBounds_toArray, List.set_cons_zero, List.set_cons_succ]
  refine wpAnyH_take (i := 5) (oi := { dst := some 11, op := Go.Op.extract (Go.Operand.tmp 9) 1, type := 27, pos := "post.go:73", after := #[{ on := 3, ground := Go.Ground.data }], guard := none }) (v := ?v99) rfl (by kernel_rfl) (by kernel_rfl) (by kernel_rfl) (fun _ _ _ h => h) (Or.inl ⟨by kernel_rfl, ?h99⟩) (by assumption) ?r99
  case h99 => (intro w hSw; (try dsimp only at hSw); go_simp; try with_reducible rfl)
  try simp only [Act.put, List.setIfInBounds_toArray, List.set_cons_zero, List.set_cons_succ]
  refine wpAnyH_ready (rs := [6]) (by kernel_rfl) (by simp) ?_
  refine AllReadyH.cons (o := { dst := none, op := Go.Op.store 51 (Go.Operand.tmp 4) (Go.Operand.tmp 10), type := 0, pos := "post.go:73", after := #[{ on := 4, ground := Go.Ground.data }, { on := 3, ground := Go.Ground.chain }, { on := 0, ground := Go.Ground.phase }, { on := 1, ground := Go.Ground.phase }, { on := 2, ground := Go.Ground.phase }, { on := 3, ground := Go.Ground.phase }, { on := 4, ground := Go.Ground.phase }, { on := 5, ground := Go.Ground.phase }], guard := none }) rfl (fun K hK => ?_) AllReadyH.nil
  go_simp
  have hx9 : ∃ u v, P3 w ((u6.setCell ⟨w.heap.size + 2, 0, none⟩ (.int .i64 nr)).setCell ⟨w.heap.size + 2, 1, none⟩ (.slice a7 R.length c7)) (.int .i64 n) (.slice a m ca) #[.int .i64 k, .int .i64 x, .int .i64 y, .int .i64 c, .int .i64 d] u v := ⟨_, _, ⟨(Q6.bl.setCell (p := ⟨w.heap.size + 2, 0, none⟩) (by show w.heap.size ≤ w.heap.size + 2; omega) _).setCell (p := ⟨w.heap.size + 2, 1, none⟩) (by show w.heap.size ≤ w.heap.size + 2; omega) _, (Q6.z.far (p := ⟨w.heap.size + 2, 0, none⟩) (by simp) _).far (p := ⟨w.heap.size + 2, 1, none⟩) (by simp) _, (Q6.s.far (p := ⟨w.heap.size + 2, 0, none⟩) (by simp) _).far (p := ⟨w.heap.size + 2, 1, none⟩) (by simp) _, zh_set Q6.r _ _⟩⟩
  refine hK.out _ _ (hx9) (fun hHeld => ?_)
  clear hK K
  try simp only [Act.put, List.setIfInBounds_toArray, List.set_cons_zero, List.set_cons_succ]
  refine wpAnyH_take (i := 7) (oi := { dst := some 5, op := Go.Op.assign (Go.Operand.tmp 11), type := 27, pos := "post.go:73", after := #[{ on := 5, ground := Go.Ground.data }, { on := 6, ground := Go.Ground.chain }, { on := 0, ground := Go.Ground.phase }, { on := 1, ground := Go.Ground.phase }, { on := 2, ground := Go.Ground.phase }, { on := 3, ground := Go.Ground.phase }, { on := 4, ground := Go.Ground.phase }, { on := 5, ground := Go.Ground.phase }, { on := 6, ground := Go.Ground.phase }], guard := none }) (v := ?v100) rfl (by kernel_rfl) (by kernel_rfl) (by kernel_rfl) (fun _ _ _ h => h) (Or.inl ⟨by kernel_rfl, ?h100⟩) (by assumption) ?r100
  case h100 => (intro w hSw; (try dsimp only at hSw); go_simp; try with_reducible rfl)
  try simp only [Act.put, List.setIfInBounds_toArray, List.set_cons_zero, List.set_cons_succ]
  refine wpAnyH_done (by kernel_rfl) ?_ _
  have hfin := Lib.hid (zone_put (n := nr) (err := E) Q2.bl (by omega) Q2.r hc7 s7 b7 nw7)
  clear g0 g1 r0 r1 r2 r3 r4 y0 y1 f0 f1 hx6 hx9 hx2 hHeld Q6 Q2
  go_wp2
  exact zone_ret2 hfin.out.1 hfin.out.2.1 _ _ 4 5 rfl rfl rfl rfl
end Go.Proofs.YtimgocfkogebmaaGreatDoor
