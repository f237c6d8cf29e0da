/-
  Words and walks under the law's proof.
-/
import Derived.ArgAppend
import Derived.Test.YtimgocfkogebmaaGreatDoorQF01
import Derived.Test.YtimgocfkogebmaaGreatDoorQF08
import Derived.Test.YtimgocfkogebmaaGreatDoorQF09
import Derived.Test.YtimgocfkogebmaaGreatDoorQF10
import Derived.Test.YtimgocfkogebmaaGreatDoorQF11
import Derived.Test.YtimgocfkogebmaaGreatDoorQF12
namespace Go.Proofs.YtimgocfkogebmaaGreatDoor
open Go.RowKit
set_option linter.unusedVariables false
set_option linter.unusedSimpArgs false
theorem zbox_apart {W : World} {g : Nat} {x : Int} {b : Option Addr} {n k : Nat} (h : Holds W g 51 #[.int .i64 x, .slice b n k]) {a : Option Addr} {m c : Nat} {l : List Int} (hs : SL W a m c l) (hl : 2 ≤ l.length) (b' off : Nat) (ha : a = some ⟨b', off, none⟩) (h0 : l ≠ []) : b' ≠ g := by
  rintro rfl
  obtain ⟨b1, o1, ha1, -, hc0⟩ := sees_num hs.sees (i := 0) (by omega)
  obtain ⟨b2, o2, ha2, -, hc1⟩ := sees_num hs.sees (i := 1) (by omega)
  rw [ha] at ha1 ha2
  injection ha1 with ha1
  injection ha1 with h1 h2
  injection ha2 with ha2
  injection ha2 with h3 h4
  subst h1 h2 h3 h4
  have q0 := h.cell (off + 0)
  have q1 := h.cell (off + 1)
  rw [hc0] at q0
  rw [hc1] at q1
  have h4 : off + 1 < 2 := by
    rcases Nat.lt_or_ge (off + 1) 2 with h4 | h4
    · exact h4
    · rw [Array.getElem?_eq_none (by simpa using h4)] at q1
      cases q1
  have : off = 0 := by omega
  subst this
  simp at q1
theorem zbox_set {W : World} {g : Nat} {x : Int} {b : Option Addr} {n k : Nat} (h : Holds W g 51 #[.int .i64 x, .slice b n k]) {a : Option Addr} {m c : Nat} {l : List Int} (hs : SL W a m c l) (hl : l = [] ∨ 2 ≤ l.length) (u0 u1 : Value) :
    Holds ((W.setCell ⟨g, 0, none⟩ u0).setCell ⟨g, 1, none⟩ u1) g 51 #[u0, u1] ∧ SL ((W.setCell ⟨g, 0, none⟩ u0).setCell ⟨g, 1, none⟩ u1) a m c l ∧ BelowE [g] W.heap.size W ((W.setCell ⟨g, 0, none⟩ u0).setCell ⟨g, 1, none⟩ u1) := by
  have hE : BelowE [g] W.heap.size W ((W.setCell ⟨g, 0, none⟩ u0).setCell ⟨g, 1, none⟩ u1) := ((BelowE.refl _ _ _).setIn (p := ⟨g, 0, none⟩) (by simp) _).setIn (p := ⟨g, 1, none⟩) (by simp) _
  refine ⟨?_, ⟨hs.len, hs.cap, hs.max, ?_⟩, hE⟩
  · have := (h.set 0 u0).set 1 u1
    simp only [List.setIfInBounds_toArray, List.set_cons_zero, List.set_cons_succ] at this
    exact this
  · have q := seesN_belowE hs.sees (Nat.le_refl _) hE (fun b off ha h0 => zbox_apart h hs (by rcases hl with h1 | h1; exact absurd h1 h0; exact h1) b off ha h0)
    simpa using q
set_option maxRecDepth 100000 in
set_option maxHeartbeats 8000000 in
theorem redge_any (p : PV) (D : PD) (a : Option Addr) (n cc : Nat) (L : List (Int × List Int)) (i : Nat) (w : World) (h : PrA w p D) (hl : ZRow w a n cc L) (hb : chkZ D L = 0) (hi : i < p.n3) :
    Calls Tryz.prog 22 #[.agg #[.string p.nm, .slice p.a1 p.n1 p.c1, .slice p.a2 p.n2 p.c2, .slice p.a3 p.n3 p.c3], .slice a n cc, .int .i64 i] w (OfE (edgeA D L (D.edges.getD i edge0)) (mayZ D.vars.length (edgeL L (D.edges.getD i edge0)) (D.edges.getD i edge0)) w) := by
  have hm3 : (p.n3 : Int) ≤ 9223372036854775807 := by have := h.edges.max'; omega
  have hm2 : (p.n2 : Int) ≤ 9223372036854775807 := by have := h.spots.max'; omega
  have hmn : (n : Int) ≤ 9223372036854775807 := by have := hl.max'; omega
  have hii : (i : Int) < (p.n3 : Int) := by omega
  obtain ⟨f, hf1, hf2, hf3, hf4, hf5, hf6⟩ := edge_facts hb (i := i) (by rw [← h.edges.len]; exact hi)
  have hff : f < n := by rw [hl.len]; exact hf3
  have hff2 : f < p.n2 := by rw [h.spots.len]; exact hf2
  have hfi : (f : Int) < (n : Int) := by omega
  have hfi2 : (f : Int) < (p.n2 : Int) := by omega
  have hv : varsB D.vars = true := by
    have hp : progB D = true := by
      cases hq : progB D
      · unfold chkZ at hb; rw [hq] at hb; cases hb
      · rfl
    unfold progB at hp
    simp only [Bool.and_eq_true] at hp
    exact hp.2.2.1
  have hne2 : faultL D.vars.length (edgeL L (D.edges.getD i edge0)) (D.edges.getD i edge0).k (D.edges.getD i edge0).x (D.edges.getD i edge0).y (D.edges.getD i edge0).c = [] ∨ 2 ≤ (faultL D.vars.length (edgeL L (D.edges.getD i edge0)) (D.edges.getD i edge0).k (D.edges.getD i edge0).x (D.edges.getD i edge0).y (D.edges.getD i edge0).c).length := by
    by_cases hk : (D.edges.getD i edge0).k = 5
    · rcases (faultL_isz hf5 (D.edges.getD i edge0).k (D.edges.getD i edge0).x (D.edges.getD i edge0).y (D.edges.getD i edge0).c).2 with he | hF
      · exact .inl he
      · right
        rw [hF.len]
        rw [hk] at hf6
        obtain ⟨r1, r2, r3, r4, r5, _⟩ := right_diff (.inr rfl) hf6
        have h1 : 1 ≤ D.vars.length := by omega
        unfold sz
        have := Nat.mul_le_mul (show 2 ≤ D.vars.length + 1 by omega) (show 2 ≤ D.vars.length + 1 by omega)
        omega
    · left; unfold faultL; rw [if_neg hk]
  have hk5 : faultL D.vars.length (edgeL L (D.edges.getD i edge0)) (D.edges.getD i edge0).k (D.edges.getD i edge0).x (D.edges.getD i edge0).y (D.edges.getD i edge0).c ≠ [] → (D.edges.getD i edge0).k = 5 := by
    intro hq
    by_cases hk : (D.edges.getD i edge0).k = 5
    · exact hk
    · exact absurd (by unfold faultL; rw [if_neg hk]) hq
  have hmu := must_is hf5 hf6
  have q1 := Lib.hid (fun a m ca W hW => rfault_any D.vars.length _ _ _ _ _ _ hf5 hf6 a m ca W hW)
  have q2 := Lib.hid (fun W (hW : TT W p.a1 p.n1 p.c1 D.vars) => rshow_any p.a1 p.n1 p.c1 D.vars (vars_sz hv) _ _ _ _ _ (by rw [h.vars.len]; exact hf6) W hW)
  have hSP : showP D.vars (D.edges.getD i edge0).k (D.edges.getD i edge0).x (D.edges.getD i edge0).y (D.edges.getD i edge0).c (D.edges.getD i edge0).d = stmtT D.vars (D.edges.getD i edge0).k (D.edges.getD i edge0).x (D.edges.getD i edge0).y (D.edges.getD i edge0).c (D.edges.getD i edge0).d := by
    unfold showP
    rw [if_pos (by unfold showE; rw [if_pos hv, if_pos hf6])]
  obtain ⟨b, off, he', hbl, x0, x1, x2, x3, x4, x5, x6⟩ := edges_at h.edges hi
  rw [hf1] at x0
  have hAZ : edgeA D L (D.edges.getD i edge0) = if mayZ D.vars.length (edgeL L (D.edges.getD i edge0)) (D.edges.getD i edge0) = true then ⟨kindA (D.edges.getD i edge0).x (D.edges.getD i edge0).y, sevA (!decide (faultL D.vars.length (edgeL L (D.edges.getD i edge0)) (D.edges.getD i edge0).k (D.edges.getD i edge0).x (D.edges.getD i edge0).y (D.edges.getD i edge0).c = []) && decide (faultL D.vars.length (edgeL L (D.edges.getD i edge0)) (D.edges.getD i edge0).k (D.edges.getD i edge0).x (D.edges.getD i edge0).y (D.edges.getD i edge0).c = edgeL L (D.edges.getD i edge0))), (D.spots.getD f spot0).fn, (D.spots.getD f spot0).file, (D.spots.getD f spot0).line, trimT (stmtT D.vars (D.edges.getD i edge0).k (D.edges.getD i edge0).x (D.edges.getD i edge0).y (D.edges.getD i edge0).c (D.edges.getD i edge0).d)⟩ else al0 := by
    unfold edgeA alarmZ
    rw [← hSP, ← hmu, hf1, Int.toNat_natCast]
    rfl
  have hMZ : mayZ D.vars.length (edgeL L (D.edges.getD i edge0)) (D.edges.getD i edge0) = !decide (faultL D.vars.length (edgeL L (D.edges.getD i edge0)) (D.edges.getD i edge0).k (D.edges.getD i edge0).x (D.edges.getD i edge0).y (D.edges.getD i edge0).c = []) := rfl
  obtain ⟨bz, oz, za, zm, zc, rfl, hbz, z0, z1, hs⟩ := hl.at_ hff
  rw [hf4] at z0 hs
  dsimp only at z0 hs
  obtain ⟨bs, os, hes, hbs, s0, s1, s2⟩ := spots_at h.spots hff2
  have hvl := h.vars.len
  rw [← hvl] at q1 z0
  clear hmu hSP hf1 hf3 hf4 hf5 hf6 hb hv hf2 hff hff2
  generalize edgeA D L (D.edges.getD i edge0) = AR at *
  generalize mayZ D.vars.length (edgeL L (D.edges.getD i edge0)) (D.edges.getD i edge0) = mb at *
  generalize edgeL L (D.edges.getD i edge0) = lz at *
  generalize D.edges.getD i edge0 = ed at *
  obtain ⟨efr, eds, ek, ex, ey, ec, edd⟩ := ed
  dsimp only at *
  have hS5 : Hid (ek = 5 → 6 ≤ (stmtT D.vars ek ex ey ec edd).size ∧ (stmtT D.vars ek ex ey ec edd).extract 6 (stmtT D.vars ek ex ey ec edd).size = trimT (stmtT D.vars ek ex ey ec edd)) := Lib.hid (fun h => by rw [h]; exact cut_stmt _ _ _ _ _)
  generalize stmtT D.vars ek ex ey ec edd = SP at *
  generalize D.spots.getD f spot0 = sp at *
  obtain ⟨sf, sfi, sl⟩ := sp
  dsimp only at *
  rw [← hvl] at hne2 hk5 hAZ hMZ
  obtain ⟨pnm, pa1, pn1, pc1, pa2, pn2, pc2, pa3, pn3, pc3⟩ := p
  dsimp only at *
  generalize faultL pn1 lz ek ex ey ec = FL at *
  subst he'
  subst hes
  obtain ⟨W1, hW1⟩ : ∃ W1, W1 = w.alloc (.cells #[.string pnm, .slice pa1 pn1 pc1, .slice (some ⟨bs, os, none⟩) pn2 pc2, .slice (some ⟨b, off, none⟩) pn3 pc3] 38) := ⟨_, rfl⟩
  obtain ⟨W2, hW2⟩ : ∃ W2, W2 = W1.alloc (.cells #[.int .i64 0, .int .i64 0, .string ⟨#[]⟩, .string ⟨#[]⟩, .int .i64 0, .string ⟨#[]⟩] 23) := ⟨_, rfl⟩
  obtain ⟨X, hX⟩ : ∃ X, X = W2.alloc (.cells #[.int .i64 f, .int .i64 eds, .int .i64 ek, .int .i64 ex, .int .i64 ey, .int .i64 ec, .int .i64 edd] 75) := ⟨_, rfl⟩
  have y1 : W1.heap.size = w.heap.size + 1 := by rw [hW1]; simp
  have y2 : W2.heap.size = w.heap.size + 1 + 1 := by rw [hW2]; simp [y1]
  have b1 : Below w.heap.size w W1 := by rw [hW1]; exact box_below _ _ _
  have b2 : Below W1.heap.size W1 W2 := by rw [hW2]; exact box_below _ _ _
  have b3 : Below W2.heap.size W2 X := by rw [hX]; exact box_below _ _ _
  have b12 := b1.trans (b2.mono b1.size)
  have BL := Lib.hid (b12.trans (b3.mono b12.size))
  have HP := Lib.hid (Holds.below (w := W1) (g := w.heap.size) (t := 38) (cs := #[.string pnm, .slice pa1 pn1 pc1, .slice (some ⟨bs, os, none⟩) pn2 pc2, .slice (some ⟨b, off, none⟩) pn3 pc3]) (by rw [hW1]; exact Holds.new _ _ _) (b2.trans (b3.mono b2.size)) (by omega))
  have HA := Lib.hid (Holds.below (w := W2) (g := w.heap.size + 1) (t := 23) (cs := #[.int .i64 0, .int .i64 0, .string ⟨#[]⟩, .string ⟨#[]⟩, .int .i64 0, .string ⟨#[]⟩]) (by rw [hW2, ← y1]; exact Holds.new _ _ _) b3 (by omega))
  have HE := Lib.hid (show Holds X (w.heap.size + 1 + 1) 75 #[.int .i64 f, .int .i64 eds, .int .i64 ek, .int .i64 ex, .int .i64 ey, .int .i64 ec, .int .i64 edd] by rw [hX, ← y2]; exact Holds.new _ _ _)
  have x0' := (b12.cell (p := ⟨b, off + i * 7, none⟩) hbl).trans x0
  have x1' := (b12.cell (p := ⟨b, off + i * 7 + 1, none⟩) hbl).trans x1
  have x2' := (b12.cell (p := ⟨b, off + i * 7 + 2, none⟩) hbl).trans x2
  have x3' := (b12.cell (p := ⟨b, off + i * 7 + 3, none⟩) hbl).trans x3
  have x4' := (b12.cell (p := ⟨b, off + i * 7 + 4, none⟩) hbl).trans x4
  have x5' := (b12.cell (p := ⟨b, off + i * 7 + 5, none⟩) hbl).trans x5
  have x6' := (b12.cell (p := ⟨b, off + i * 7 + 6, none⟩) hbl).trans x6
  rw [hW2, hW1] at x0' x1' x2' x3' x4' x5' x6'
  have hh := Lib.hid (And.intro hW1 (And.intro hW2 hX))
  have hzl := Lib.hid (fun j v (hv : w.cell? ⟨bz, j, none⟩ = some v) W (hW : Below w.heap.size w W) => (hW.cell (p := ⟨bz, j, none⟩) hbz).trans hv)
  have hsl := Lib.hid (fun j v (hv : w.cell? ⟨bs, j, none⟩ = some v) W (hW : Below w.heap.size w W) => (hW.cell (p := ⟨bs, j, none⟩) hbs).trans hv)
  have SZ := Lib.hid hs
  have VV := Lib.hid h.vars
  have Q0 := Lib.hid z0
  have Q1 := Lib.hid z1
  have Q2 := Lib.hid s0
  have Q3 := Lib.hid s1
  have Q4 := Lib.hid s2
  have hAZ' := Lib.hid hAZ
  have hMZ' := Lib.hid hMZ
  have hne' := Lib.hid hne2
  have hk5' := Lib.hid hk5
  have hXz : w.heap.size + 1 + 1 < X.heap.size := HE.out.lt
  clear hW1 hW2 hX y1 y2 b1 b2 b3 b12 x0 x1 x2 x3 x4 x5 x6 hs h hl z0 z1 s0 s1 s2 hAZ hMZ hne2 hk5 hvl
  go_enter Tryz.func22, Tryz.ntmps22
  go_wp2
  rw [← hh.out.1, ← hh.out.2.1, ← hh.out.2.2]
  clear hh x0' x1' x2' x3' x4' x5' x6'
  have e0 : ∀ W, Below X.heap.size X W → W.cell? ⟨w.heap.size + 1 + 1, 0, none⟩ = some (.int .i64 f) := fun W hW => (HE.out.below hW HE.out.lt).cell 0
  have e2 : ∀ W, Below X.heap.size X W → W.cell? ⟨w.heap.size + 1 + 1, 2, none⟩ = some (.int .i64 ek) := fun W hW => (HE.out.below hW HE.out.lt).cell 2
  have e3 : ∀ W, Below X.heap.size X W → W.cell? ⟨w.heap.size + 1 + 1, 3, none⟩ = some (.int .i64 ex) := fun W hW => (HE.out.below hW HE.out.lt).cell 3
  have e4 : ∀ W, Below X.heap.size X W → W.cell? ⟨w.heap.size + 1 + 1, 4, none⟩ = some (.int .i64 ey) := fun W hW => (HE.out.below hW HE.out.lt).cell 4
  have e5 : ∀ W, Below X.heap.size X W → W.cell? ⟨w.heap.size + 1 + 1, 5, none⟩ = some (.int .i64 ec) := fun W hW => (HE.out.below hW HE.out.lt).cell 5
  have e6 : ∀ W, Below X.heap.size X W → W.cell? ⟨w.heap.size + 1 + 1, 6, none⟩ = some (.int .i64 edd) := fun W hW => (HE.out.below hW HE.out.lt).cell 6
  have l0 : ∀ W, Below X.heap.size X W → W.cell? ⟨bz, oz + f * 2, none⟩ = some (.int .i64 pn1) := fun W hW => hzl.out _ _ Q0.out W (BL.out.trans (hW.mono BL.out.size))
  have l1 : ∀ W, Below X.heap.size X W → W.cell? ⟨bz, oz + f * 2 + 1, none⟩ = some (.slice za zm zc) := fun W hW => hzl.out _ _ Q1.out W (BL.out.trans (hW.mono BL.out.size))
  have q1' := Lib.hid (fun W (hW : Below X.heap.size X W) => q1.out za zm zc W (SZ.out.below (BL.out.trans (hW.mono BL.out.size))))
  go_cut [9] (fun t W => Below X.heap.size X W ∧ ∃ g fa fm fc, t = .pointer (some ⟨g, 0, none⟩) ∧ X.heap.size ≤ g ∧ Holds W g 51 #[.int .i64 pn1, .slice fa fm fc] ∧ SL W fa fm fc FL)
  case first =>
    refine wp_drawn_on (fun W => Below X.heap.size X W) (by kernel_rfl) ((Below.refl _ _).drew) (fun hHeld => ?_)
    refine wT 0 (v := ?v1) rfl (by kernel_rfl) (fun _ _ _ h => h) ?h1 (by assumption) ?r1
    case h1 => (intro w hSw; (try dsimp only at hSw); go_simp; try with_reducible rfl)
    refine wT 1 (v := ?v2) rfl (by kernel_rfl) (fun _ _ _ h => h) ?h2 (by assumption) ?r2
    case h2 => (intro w hSw; (try dsimp only at hSw); go_simp; try with_reducible rfl)
    refine wT 2 (v := ?v3) rfl (by kernel_rfl) (fun _ _ _ h => h) ?h3 (by assumption) ?r3
    case h3 => (intro w hSw; (try dsimp only at hSw); go_simp; try with_reducible rfl)
    refine wT 3 (v := ?v4) rfl (by kernel_rfl) (fun _ _ _ h => h) ?h4 (by assumption) ?r4
    case h4 => (intro w hSw; (try dsimp only at hSw); go_simp; try with_reducible rfl)
    refine wT 4 (v := ?v5) rfl (by kernel_rfl) (fun _ _ _ h => h) ?h5 (by assumption) ?r5
    case h5 => (intro w hSw; (try dsimp only at hSw); go_simp; try with_reducible rfl)
    refine wT 5 (v := ?v6) rfl (by kernel_rfl) (fun _ _ _ h => h) ?h6 (by assumption) ?r6
    case h6 => (intro w hSw; (try dsimp only at hSw); go_simp; try with_reducible rfl)
    refine wT 6 (v := ?v7) rfl (by kernel_rfl) (fun _ _ _ h => h) ?h7 (by assumption) ?r7
    case h7 => (intro w hSw; (try dsimp only at hSw); go_simp; try with_reducible rfl)
    try simp only [Act.put, List.setIfInBounds_toArray, List.set_cons_zero, List.set_cons_succ]
    refine wpAnyH_ready (rs := [7, 8]) (by kernel_rfl) (by simp) ?_
    refine AllReadyH.cons (o := ⟨_, _, _, _, _, _⟩) rfl (fun K hK => ?_) (AllReadyH.cons (o := ⟨_, _, _, _, _, _⟩) rfl (fun K hK => ?_) AllReadyH.nil)
    · go_simp
      with_reducible refine (q1'.out _ hHeld).mono ?_
      have hX7 := hHeld.size
      rintro e v7 ⟨fa, fm, fc, rfl, S7, b7⟩
      replace hX7 := Nat.le_trans hX7 b7.size
      go_simp
      refine hK.out _ _ (hHeld.trans (b7.mono hHeld.size)) (fun hHeld => ?_)
      clear hK K
      try simp only [Act.put, List.setIfInBounds_toArray, List.set_cons_zero, List.set_cons_succ]
      refine wpAnyH_ready (rs := [8]) (by kernel_rfl) (by simp) ?_
      refine AllReadyH.cons (o := ⟨_, _, _, _, _, _⟩) rfl (fun K hK => ?_) AllReadyH.nil
      first | (have hZa := Holds.new v7 51 #[.int .i64 0, .slice none 0 0]; have S7a := S7.below (box_below v7 #[.int .i64 0, .slice none 0 0] 51); have hx8 := hHeld.alloc hHeld.size (.cells #[.int .i64 0, .slice none 0 0] 51); go_simp; generalize v7.alloc (.cells #[.int .i64 0, .slice none 0 0] 51) = v8 at hZa S7a hx8 ⊢) | (have hZb := Holds.drew (Holds.new X 51 #[.int .i64 0, .slice none 0 0]); have hx8 : Below X.heap.size X (X.alloc (.cells #[.int .i64 0, .slice none 0 0] 51)).drew := (box_below X #[.int .i64 0, .slice none 0 0] 51).drew; go_simp; generalize (X.alloc (.cells #[.int .i64 0, .slice none 0 0] 51)).drew = v8 at hZb hx8 ⊢)
      refine hK.out _ _ (hx8) (fun hHeld => ?_)
      clear hK K
      try simp only [Act.put, List.setIfInBounds_toArray, List.set_cons_zero, List.set_cons_succ]
      refine wpAnyH_ready (rs := [9]) (by kernel_rfl) (by simp) ?_
      refine AllReadyH.cons (o := ⟨_, _, _, _, _, _⟩) rfl (fun K hK => ?_) AllReadyH.nil
      first | (have q9 := zbox_set hZa S7a hne'.out (.int .i64 pn1) (.slice fa fm fc); have c0 := hZa.cell 0; have c1 := hZa.cell 1; have r0 := hZa.free 0; have r1 := hZa.free 1; simp at c0 c1; have hZf := q9.1; have hSf := q9.2.1; have hge : X.heap.size ≤ v7.heap.size := hX7; have hx9 : Below X.heap.size X _ := hHeld.trans (below_of (q9.2.2.mono hHeld.size) (fun x hx => by rw [List.mem_singleton.1 hx]; exact hX7)); clear q9; go_simp; generalize (v8.setCell ⟨v7.heap.size, 0, none⟩ (.int .i64 pn1)).setCell ⟨v7.heap.size, 1, none⟩ (.slice fa fm fc) = v9 at hZf hSf hx9 ⊢) | (have hZc := hZb.below b7 hZb.lt; have q9 := zbox_set hZc S7 hne'.out (.int .i64 pn1) (.slice fa fm fc); have c0 := hZc.cell 0; have c1 := hZc.cell 1; have r0 := hZc.free 0; have r1 := hZc.free 1; simp at c0 c1; have hZf := q9.1; have hSf := q9.2.1; have hge : X.heap.size ≤ X.heap.size := Nat.le_refl _; have hx9 : Below X.heap.size X _ := hHeld.trans (below_of (q9.2.2.mono hHeld.size) (fun x hx => by rw [List.mem_singleton.1 hx]; exact Nat.le_refl _)); clear q9; go_simp; generalize (v7.setCell ⟨X.heap.size, 0, none⟩ (.int .i64 pn1)).setCell ⟨X.heap.size, 1, none⟩ (.slice fa fm fc) = v9 at hZf hSf hx9 ⊢)
      refine hK.out _ _ (hx9) (fun hHeld => ?_)
      clear hK K
      try simp only [Act.put, List.setIfInBounds_toArray, List.set_cons_zero, List.set_cons_succ]
      refine wpAnyH_done (by kernel_rfl) ?_ _
      go_wp2_with fail
      go_meet
      exact ⟨hHeld, _, fa, fm, fc, rfl, hge, hZf, hSf⟩
    · first | (have hZa := Holds.new v7 51 #[.int .i64 0, .slice none 0 0]; have S7a := S7.below (box_below v7 #[.int .i64 0, .slice none 0 0] 51); have hx8 := hHeld.alloc hHeld.size (.cells #[.int .i64 0, .slice none 0 0] 51); go_simp; generalize v7.alloc (.cells #[.int .i64 0, .slice none 0 0] 51) = v8 at hZa S7a hx8 ⊢) | (have hZb := Holds.drew (Holds.new X 51 #[.int .i64 0, .slice none 0 0]); have hx8 : Below X.heap.size X (X.alloc (.cells #[.int .i64 0, .slice none 0 0] 51)).drew := (box_below X #[.int .i64 0, .slice none 0 0] 51).drew; go_simp; generalize (X.alloc (.cells #[.int .i64 0, .slice none 0 0] 51)).drew = v8 at hZb hx8 ⊢)
      refine hK.out _ _ (hx8) (fun hHeld => ?_)
      clear hK K
      try simp only [Act.put, List.setIfInBounds_toArray, List.set_cons_zero, List.set_cons_succ]
      refine wpAnyH_ready (rs := [7]) (by kernel_rfl) (by simp) ?_
      refine AllReadyH.cons (o := ⟨_, _, _, _, _, _⟩) rfl (fun K hK => ?_) AllReadyH.nil
      go_simp
      with_reducible refine (q1'.out _ hHeld).mono ?_
      have hX7 := hHeld.size
      rintro e v7 ⟨fa, fm, fc, rfl, S7, b7⟩
      replace hX7 := Nat.le_trans hX7 b7.size
      go_simp
      refine hK.out _ _ (hHeld.trans (b7.mono hHeld.size)) (fun hHeld => ?_)
      clear hK K
      try simp only [Act.put, List.setIfInBounds_toArray, List.set_cons_zero, List.set_cons_succ]
      refine wpAnyH_ready (rs := [9]) (by kernel_rfl) (by simp) ?_
      refine AllReadyH.cons (o := ⟨_, _, _, _, _, _⟩) rfl (fun K hK => ?_) AllReadyH.nil
      first | (have q9 := zbox_set hZa S7a hne'.out (.int .i64 pn1) (.slice fa fm fc); have c0 := hZa.cell 0; have c1 := hZa.cell 1; have r0 := hZa.free 0; have r1 := hZa.free 1; simp at c0 c1; have hZf := q9.1; have hSf := q9.2.1; have hge : X.heap.size ≤ v7.heap.size := hX7; have hx9 : Below X.heap.size X _ := hHeld.trans (below_of (q9.2.2.mono hHeld.size) (fun x hx => by rw [List.mem_singleton.1 hx]; exact hX7)); clear q9; go_simp; generalize (v8.setCell ⟨v7.heap.size, 0, none⟩ (.int .i64 pn1)).setCell ⟨v7.heap.size, 1, none⟩ (.slice fa fm fc) = v9 at hZf hSf hx9 ⊢) | (have hZc := hZb.below b7 hZb.lt; have q9 := zbox_set hZc S7 hne'.out (.int .i64 pn1) (.slice fa fm fc); have c0 := hZc.cell 0; have c1 := hZc.cell 1; have r0 := hZc.free 0; have r1 := hZc.free 1; simp at c0 c1; have hZf := q9.1; have hSf := q9.2.1; have hge : X.heap.size ≤ X.heap.size := Nat.le_refl _; have hx9 : Below X.heap.size X _ := hHeld.trans (below_of (q9.2.2.mono hHeld.size) (fun x hx => by rw [List.mem_singleton.1 hx]; exact Nat.le_refl _)); clear q9; go_simp; generalize (v7.setCell ⟨X.heap.size, 0, none⟩ (.int .i64 pn1)).setCell ⟨X.heap.size, 1, none⟩ (.slice fa fm fc) = v9 at hZf hSf hx9 ⊢)
      refine hK.out _ _ (hx9) (fun hHeld => ?_)
      clear hK K
      try simp only [Act.put, List.setIfInBounds_toArray, List.set_cons_zero, List.set_cons_succ]
      refine wpAnyH_done (by kernel_rfl) ?_ _
      go_wp2_with fail
      go_meet
      exact ⟨hHeld, _, fa, fm, fc, rfl, hge, hZf, hSf⟩
  case rest =>
    obtain ⟨hx, g, fa, fm, fc, rfl, hge, HZ, SF⟩ := hcut
    have hEl := HE.out.lt
    have hAl := HA.out.lt
    have hPl := HP.out.lt
    have hBw := BL.out.trans (hx.mono BL.out.size)
    have hfl := SF.len
    have HZ' := Lib.hid HZ
    have SF' := Lib.hid SF
    have hx' := Lib.hid hx
    have c2 := e2 wc hx
    have c1 := HZ.cell 1
    simp at c1
    have HAc := HA.out.below hx hAl
    clear q1' HZ SF e0 e2 e3 e4 e5 e6 l0 l1
    by_cases hF : FL = []
    · have hmb : mb = false := by rw [hMZ'.out, hF]; rfl
      have hr : AR = al0 := by rw [hAZ'.out, hmb]; rfl
      have hfm : fm = 0 := by rw [hfl, hF]; rfl
      subst hmb hr hfm
      have hfin := Lib.hid (al_set HAc (.int .i64 0) (.int .i64 0) (.string ⟨#[]⟩) (.string ⟨#[]⟩) (.int .i64 0) (.string ⟨#[]⟩))
      have a0 := HAc.cell 0
      have a1 := HAc.cell 1
      have a2 := HAc.cell 2
      have a3 := HAc.cell 3
      have a4 := HAc.cell 4
      have a5 := HAc.cell 5
      have f0 := HAc.free 0
      have f1 := HAc.free 1
      have f2 := HAc.free 2
      have f3 := HAc.free 3
      have f4 := HAc.free 4
      have f5 := HAc.free 5
      simp at a0 a1 a2 a3 a4 a5
      have hB' := Lib.hid hBw
      clear HAc hAZ' hMZ' hk5' hne' hfl hF
      by_cases hk : ek = 5
      · subst hk
        go_wp2
        exact al_ret2 hfin.out.1 ⟨rfl, hB'.out.trans (below_of (hfin.out.2.mono hB'.out.size) (fun x hx => by rw [List.mem_singleton.1 hx]; omega))⟩ _ _ 6 7 rfl rfl rfl rfl
      · have hkb : (ek != 5) = true := by simpa using hk
        clear hk
        go_wp2
        exact al_ret2 hfin.out.1 ⟨rfl, hB'.out.trans (below_of (hfin.out.2.mono hB'.out.size) (fun x hx => by rw [List.mem_singleton.1 hx]; omega))⟩ _ _ 6 7 rfl rfl rfl rfl
    · have hek : ek = 5 := hk5'.out hF
      have hmb : mb = true := by rw [hMZ'.out, decide_eq_false hF]; rfl
      have hr : AR = ⟨kindA ex ey, sevA (decide (FL = lz)), sf, sfi, sl, trimT SP⟩ := by rw [hAZ'.out, hmb, decide_eq_false hF]; rfl
      have hfm : ((fm : Int) == 0) = false := by
        rw [beq_eq_false_iff_ne]
        intro h0
        have : FL.length = 0 := by omega
        exact hF (List.length_eq_zero_iff.1 this)
      have hfm2 : (fm == 0) = false := by rw [beq_eq_false_iff_ne]; intro h0; exact hF (List.length_eq_zero_iff.1 (by omega))
      subst hek hmb hr
      clear hAZ' hMZ' hk5' hne' hfl hF HAc q1
      have HPc := HP.out.below hx hPl
      have HEc := HE.out.below hx hEl
      have p2 := HPc.cell 2
      have d0 := HEc.cell 0
      simp at p2 d0
      have s0 := hsl.out _ _ Q2.out wc hBw
      have s1 := hsl.out _ _ Q3.out wc hBw
      have s2 := hsl.out _ _ Q4.out wc hBw
      have hS6 := hS5.out rfl
      generalize trimT SP = TX at *
      obtain ⟨hS6, hS7⟩ := hS6
      have hS6i : (6 : Int) ≤ (SP.size : Int) := by omega
      have hS7' := Lib.hid hS7
      clear hS7 hS5
      by_cases hy : ey = 0
      · have ey1 : (ey == 0) = true := by simpa using hy
        have hkd : Hid (kindA ex ey = 2) := Lib.hid (if_pos hy)
        clear hy
        obtain ⟨V1, hV1⟩ : ∃ V1, V1 = wc.alloc (.cells #[.string sf, .string sfi, .int .i64 sl] 80) := ⟨_, rfl⟩
        obtain ⟨V, hV⟩ : ∃ V, V = V1.alloc (.cells #[.int .i64 2, .int .i64 1, .string sf, .string sfi, .int .i64 sl, .string ⟨#[]⟩] 23) := ⟨_, rfl⟩
        have v1 : V1.heap.size = wc.heap.size + 1 := by rw [hV1]; simp
        have bV1 : Below wc.heap.size wc V1 := by rw [hV1]; exact box_below _ _ _
        have bV2 : Below V1.heap.size V1 V := by rw [hV]; exact box_below _ _ _
        have bV := bV1.trans (bV2.mono bV1.size)
        have HV := Lib.hid (show Holds V (wc.heap.size + 1) 23 #[.int .i64 2, .int .i64 1, .string sf, .string sfi, .int .i64 sl, .string ⟨#[]⟩] by rw [hV, ← v1]; exact Holds.new _ _ _)
        have bV0 : Below wc.heap.size wc (V1.alloc (.cells #[.int .i64 1, .int .i64 1, .string sf, .string sfi, .int .i64 sl, .string ⟨#[]⟩] 23)) := bV1.trans ((box_below V1 _ _).mono bV1.size)
        have d4 := (HEc.below bV0 HEc.lt).cell 4
        have d3 := (HEc.below bV0 HEc.lt).cell 3
        simp at d3 d4
        have hVV := Lib.hid (And.intro hV1 hV)
        rw [hV1] at d3 d4
        go_upto_region 11 with fail
        rw [← hVV.out.1, ← hVV.out.2]
        have HPV := Lib.hid (HPc.below bV HPc.lt)
        have HEV := Lib.hid (HEc.below bV HEc.lt)
        have HZV := Lib.hid (HZ'.out.below bV HZ'.out.lt)
        have SFV := Lib.hid (SF'.out.below bV)
        have BV := Lib.hid (hBw.trans (bV.mono hBw.size))
        have hAV := Lib.hid ((HA.out.below hx hAl).below bV (Nat.lt_of_lt_of_le hAl hx.size))
        have hgl := HZ'.out.lt
        have m0 : ∀ W, Below V.heap.size V W → W.cell? ⟨w.heap.size + 1 + 1, 0, none⟩ = some (.int .i64 f) := fun W hW => (HEV.out.below hW HEV.out.lt).cell 0
        have m1 : ∀ W, Below V.heap.size V W → W.cell? ⟨g, 0, none⟩ = some (.int .i64 pn1) := fun W hW => (HZV.out.below hW HZV.out.lt).cell 0
        have m2 : ∀ W, Below V.heap.size V W → W.cell? ⟨g, 1, none⟩ = some (.slice fa fm fc) := fun W hW => (HZV.out.below hW HZV.out.lt).cell 1
        have m3 : ∀ W, Below V.heap.size V W → W.cell? ⟨bz, oz + f * 2, none⟩ = some (.int .i64 pn1) := fun W hW => hzl.out _ _ Q0.out W (BV.out.trans (hW.mono BV.out.size))
        have m4 : ∀ W, Below V.heap.size V W → W.cell? ⟨bz, oz + f * 2 + 1, none⟩ = some (.slice za zm zc) := fun W hW => hzl.out _ _ Q1.out W (BV.out.trans (hW.mono BV.out.size))
        have qz := Lib.hid (fun W (hW : Below V.heap.size V W) => zrsame_any pn1 pn1 fa za FL lz fm zm fc zc W (SFV.out.below hW) (SZ.out.below (BV.out.trans (hW.mono BV.out.size))))
        clear hVV p2 d0 d3 d4 s0 s1 s2 bV0 bV1 bV2 bV hV hV1 v1 hx hBw HEc HPc c1 c2
        refine wp_drawn_on (fun W => Below V.heap.size V W) (by kernel_rfl) ((Below.refl _ _).drew) (fun hHeld => ?_)
        refine wT 0 (v := ?v8) rfl (by kernel_rfl) (fun _ _ _ h => h) ?h8 (by assumption) ?r8
        case h8 => (intro w hSw; (try dsimp only at hSw); go_simp; try with_reducible rfl)
        refine wT 1 (v := ?v9) rfl (by kernel_rfl) (fun _ _ _ h => h) ?h9 (by assumption) ?r9
        case h9 => (intro w hSw; (try dsimp only at hSw); go_simp; try with_reducible rfl)
        refine wT 2 (v := ?v10) rfl (by kernel_rfl) (fun _ _ _ h => h) ?h10 (by assumption) ?r10
        case h10 => (intro w hSw; (try dsimp only at hSw); go_simp; try with_reducible rfl)
        refine wT 3 (v := ?v11) rfl (by kernel_rfl) (fun _ _ _ h => h) ?h11 (by assumption) ?r11
        case h11 => (intro w hSw; (try dsimp only at hSw); go_simp; try with_reducible rfl)
        refine wT 4 (v := ?v12) rfl (by kernel_rfl) (fun _ _ _ h => h) ?h12 (by assumption) ?r12
        case h12 => (intro w hSw; (try dsimp only at hSw); go_simp; try with_reducible rfl)
        refine wT 5 (v := ?v13) rfl (by kernel_rfl) (fun _ _ _ h => h) ?h13 (by assumption) ?r13
        case h13 => (intro w hSw; (try dsimp only at hSw); go_simp; try with_reducible rfl)
        try simp only [Act.put, List.setIfInBounds_toArray, List.set_cons_zero, List.set_cons_succ]
        refine wpAnyH_ready (rs := [6]) (by kernel_rfl) (by simp) ?_
        refine AllReadyH.cons (o := ⟨_, _, _, _, _, _⟩) rfl (fun K hK => ?_) AllReadyH.nil
        go_simp
        with_reducible refine (qz.out _ hHeld).mono ?_
        rintro e v6 ⟨rfl, b6⟩
        go_simp
        refine hK.out _ _ (hHeld.trans (b6.mono hHeld.size)) (fun hHeld => ?_)
        clear hK K
        try simp only [Act.put, List.setIfInBounds_toArray, List.set_cons_zero, List.set_cons_succ]
        refine wpAnyH_done (by kernel_rfl) ?_ _
        have HP6 := HPV.out.below hHeld HPV.out.lt
        have HE6 := HEV.out.below hHeld HEV.out.lt
        have HA6 := hAV.out.below hHeld hAV.out.lt
        have HV6 := HV.out.below hHeld HV.out.lt
        have BV6 := BV.out.trans (hHeld.mono BV.out.size)
        have hwl := BL.out.size
        have hxl := hx'.out.size
        clear m0 m1 m2 m3 m4 qz b6
        by_cases hsm : FL = lz
        · have hsb : decide (FL = lz) = true := decide_eq_true hsm
          have hsb' := Lib.hid hsb
          rw [hsb]
          have HP7 := HP6.far (p := ⟨wc.heap.size + 1, 1, none⟩) (by show w.heap.size ≠ wc.heap.size + 1; omega) (.int .i64 2)
          have HE7 := HE6.far (p := ⟨wc.heap.size + 1, 1, none⟩) (by show w.heap.size + 1 + 1 ≠ wc.heap.size + 1; omega) (.int .i64 2)
          have HA7 := HA6.far (p := ⟨wc.heap.size + 1, 1, none⟩) (by show w.heap.size + 1 ≠ wc.heap.size + 1; omega) (.int .i64 2)
          have HV7 := HV6.set 1 (.int .i64 2)
          simp only [List.setIfInBounds_toArray, List.set_cons_zero, List.set_cons_succ] at HV7
          have BV7 := BV6.setCell (p := ⟨wc.heap.size + 1, 1, none⟩) (by show w.heap.size ≤ wc.heap.size + 1; omega) (.int .i64 2)
          have cc1 := HV6.cell 1
          have ff1 := HV6.free 1
          simp at cc1
          obtain ⟨V7, hV7⟩ : ∃ V7, V7 = (v6.setCell ⟨wc.heap.size + 1, 1, none⟩ (.int .i64 2)) := ⟨_, rfl⟩
          have k1 := HP7.cell 1
          have d2 := HE7.cell 2
          have d3 := HE7.cell 3
          have d4 := HE7.cell 4
          have d5 := HE7.cell 5
          have d6 := HE7.cell 6
          simp at k1 d2 d3 d4 d5 d6
          rw [← hV7] at HA7 HV7 BV7
          have hV7' := Lib.hid hV7
          have qs := Lib.hid (q2.out V7 (VV.out.below BV7))
          clear hV7 HP6 HE6 HA6 HV6 BV6 HP7 HE7 HPV HEV HZV hAV HV hHeld
          go_wp2_with fail
          rw [← hV7'.out]
          with_reducible refine qs.out.mono ?_
          rintro e v8 ⟨rfl, b8⟩
          have HA8 := HA7.below b8 HA7.lt
          have HV8 := HV7.below b8 HV7.lt
          have BV8 := BV7.trans (b8.mono BV7.size)
          clear b8 qs hV7' HA7 HV7 BV7 k1 d2 d3 d4 d5 d6
          have cc5 := HV8.cell 5
          have ff5 := HV8.free 5
          simp at cc5
          have HV9 := HV8.set 5 (.string (SP.extract 6 SP.size))
          simp only [List.setIfInBounds_toArray, List.set_cons_zero, List.set_cons_succ] at HV9
          have HA9 := HA8.far (p := ⟨wc.heap.size + 1, 5, none⟩) (by show w.heap.size + 1 ≠ wc.heap.size + 1; omega) (.string (SP.extract 6 SP.size))
          have BV9 := Lib.hid (BV8.setCell (p := ⟨wc.heap.size + 1, 5, none⟩) (by show w.heap.size ≤ wc.heap.size + 1; omega) (.string (SP.extract 6 SP.size)))
          have g0 := HV9.cell 0
          have g1 := HV9.cell 1
          have g2 := HV9.cell 2
          have g3 := HV9.cell 3
          have g4 := HV9.cell 4
          have g5 := HV9.cell 5
          have a0 := HA9.cell 0
          have a1 := HA9.cell 1
          have a2 := HA9.cell 2
          have a3 := HA9.cell 3
          have a4 := HA9.cell 4
          have a5 := HA9.cell 5
          have f0 := HA9.free 0
          have f1 := HA9.free 1
          have f2 := HA9.free 2
          have f3 := HA9.free 3
          have f4 := HA9.free 4
          have f5 := HA9.free 5
          simp at g0 g1 g2 g3 g4 g5 a0 a1 a2 a3 a4 a5
          have hfin := Lib.hid (al_set HA9 (.int .i64 2) (.int .i64 2) (.string sf) (.string sfi) (.int .i64 sl) (.string (SP.extract 6 SP.size)))
          clear HV8 HA8 BV8 HV9 HA9
          go_wp2
          exact al_ret2 (u := .bool true) hfin.out.1 ⟨by rw [hkd.out, hS7'.out, hsb'.out]; rfl, BV9.out.trans (below_of (hfin.out.2.mono BV9.out.size) (fun x hx => by rw [List.mem_singleton.1 hx]; omega))⟩ _ _ 6 7 rfl rfl rfl rfl
        · have hsb : decide (FL = lz) = false := decide_eq_false hsm
          have hsb' := Lib.hid hsb
          rw [hsb]
          have HP7 := HP6
          have HE7 := HE6
          have HA7 := HA6
          have HV7 := HV6
          have BV7 := BV6
          obtain ⟨V7, hV7⟩ : ∃ V7, V7 = v6 := ⟨_, rfl⟩
          have k1 := HP7.cell 1
          have d2 := HE7.cell 2
          have d3 := HE7.cell 3
          have d4 := HE7.cell 4
          have d5 := HE7.cell 5
          have d6 := HE7.cell 6
          simp at k1 d2 d3 d4 d5 d6
          rw [← hV7] at HA7 HV7 BV7
          have hV7' := Lib.hid hV7
          have qs := Lib.hid (q2.out V7 (VV.out.below BV7))
          clear hV7 HP6 HE6 HA6 HV6 BV6 HP7 HE7 HPV HEV HZV hAV HV hHeld
          go_wp2_with fail
          rw [← hV7'.out]
          with_reducible refine qs.out.mono ?_
          rintro e v8 ⟨rfl, b8⟩
          have HA8 := HA7.below b8 HA7.lt
          have HV8 := HV7.below b8 HV7.lt
          have BV8 := BV7.trans (b8.mono BV7.size)
          clear b8 qs hV7' HA7 HV7 BV7 k1 d2 d3 d4 d5 d6
          have cc5 := HV8.cell 5
          have ff5 := HV8.free 5
          simp at cc5
          have HV9 := HV8.set 5 (.string (SP.extract 6 SP.size))
          simp only [List.setIfInBounds_toArray, List.set_cons_zero, List.set_cons_succ] at HV9
          have HA9 := HA8.far (p := ⟨wc.heap.size + 1, 5, none⟩) (by show w.heap.size + 1 ≠ wc.heap.size + 1; omega) (.string (SP.extract 6 SP.size))
          have BV9 := Lib.hid (BV8.setCell (p := ⟨wc.heap.size + 1, 5, none⟩) (by show w.heap.size ≤ wc.heap.size + 1; omega) (.string (SP.extract 6 SP.size)))
          have g0 := HV9.cell 0
          have g1 := HV9.cell 1
          have g2 := HV9.cell 2
          have g3 := HV9.cell 3
          have g4 := HV9.cell 4
          have g5 := HV9.cell 5
          have a0 := HA9.cell 0
          have a1 := HA9.cell 1
          have a2 := HA9.cell 2
          have a3 := HA9.cell 3
          have a4 := HA9.cell 4
          have a5 := HA9.cell 5
          have f0 := HA9.free 0
          have f1 := HA9.free 1
          have f2 := HA9.free 2
          have f3 := HA9.free 3
          have f4 := HA9.free 4
          have f5 := HA9.free 5
          simp at g0 g1 g2 g3 g4 g5 a0 a1 a2 a3 a4 a5
          have hfin := Lib.hid (al_set HA9 (.int .i64 2) (.int .i64 1) (.string sf) (.string sfi) (.int .i64 sl) (.string (SP.extract 6 SP.size)))
          clear HV8 HA8 BV8 HV9 HA9
          go_wp2
          exact al_ret2 (u := .bool true) hfin.out.1 ⟨by rw [hkd.out, hS7'.out, hsb'.out]; rfl, BV9.out.trans (below_of (hfin.out.2.mono BV9.out.size) (fun x hx => by rw [List.mem_singleton.1 hx]; omega))⟩ _ _ 6 7 rfl rfl rfl rfl
      have ey1 : (ey == 0) = false := by simpa using hy
      by_cases hx0 : ex = 0
      · have ex1 : (ex == 0) = true := by simpa using hx0
        have hkd : Hid (kindA ex ey = 3) := Lib.hid (by unfold kindA; rw [if_neg hy, if_pos hx0])
        clear hy hx0
        obtain ⟨V1, hV1⟩ : ∃ V1, V1 = wc.alloc (.cells #[.string sf, .string sfi, .int .i64 sl] 80) := ⟨_, rfl⟩
        obtain ⟨V, hV⟩ : ∃ V, V = V1.alloc (.cells #[.int .i64 3, .int .i64 1, .string sf, .string sfi, .int .i64 sl, .string ⟨#[]⟩] 23) := ⟨_, rfl⟩
        have v1 : V1.heap.size = wc.heap.size + 1 := by rw [hV1]; simp
        have bV1 : Below wc.heap.size wc V1 := by rw [hV1]; exact box_below _ _ _
        have bV2 : Below V1.heap.size V1 V := by rw [hV]; exact box_below _ _ _
        have bV := bV1.trans (bV2.mono bV1.size)
        have HV := Lib.hid (show Holds V (wc.heap.size + 1) 23 #[.int .i64 3, .int .i64 1, .string sf, .string sfi, .int .i64 sl, .string ⟨#[]⟩] by rw [hV, ← v1]; exact Holds.new _ _ _)
        have bV0 : Below wc.heap.size wc (V1.alloc (.cells #[.int .i64 1, .int .i64 1, .string sf, .string sfi, .int .i64 sl, .string ⟨#[]⟩] 23)) := bV1.trans ((box_below V1 _ _).mono bV1.size)
        have d4 := (HEc.below bV0 HEc.lt).cell 4
        have d3 := (HEc.below bV0 HEc.lt).cell 3
        simp at d3 d4
        have hVV := Lib.hid (And.intro hV1 hV)
        rw [hV1] at d3 d4
        go_upto_region 11 with fail
        rw [← hVV.out.1, ← hVV.out.2]
        have HPV := Lib.hid (HPc.below bV HPc.lt)
        have HEV := Lib.hid (HEc.below bV HEc.lt)
        have HZV := Lib.hid (HZ'.out.below bV HZ'.out.lt)
        have SFV := Lib.hid (SF'.out.below bV)
        have BV := Lib.hid (hBw.trans (bV.mono hBw.size))
        have hAV := Lib.hid ((HA.out.below hx hAl).below bV (Nat.lt_of_lt_of_le hAl hx.size))
        have hgl := HZ'.out.lt
        have m0 : ∀ W, Below V.heap.size V W → W.cell? ⟨w.heap.size + 1 + 1, 0, none⟩ = some (.int .i64 f) := fun W hW => (HEV.out.below hW HEV.out.lt).cell 0
        have m1 : ∀ W, Below V.heap.size V W → W.cell? ⟨g, 0, none⟩ = some (.int .i64 pn1) := fun W hW => (HZV.out.below hW HZV.out.lt).cell 0
        have m2 : ∀ W, Below V.heap.size V W → W.cell? ⟨g, 1, none⟩ = some (.slice fa fm fc) := fun W hW => (HZV.out.below hW HZV.out.lt).cell 1
        have m3 : ∀ W, Below V.heap.size V W → W.cell? ⟨bz, oz + f * 2, none⟩ = some (.int .i64 pn1) := fun W hW => hzl.out _ _ Q0.out W (BV.out.trans (hW.mono BV.out.size))
        have m4 : ∀ W, Below V.heap.size V W → W.cell? ⟨bz, oz + f * 2 + 1, none⟩ = some (.slice za zm zc) := fun W hW => hzl.out _ _ Q1.out W (BV.out.trans (hW.mono BV.out.size))
        have qz := Lib.hid (fun W (hW : Below V.heap.size V W) => zrsame_any pn1 pn1 fa za FL lz fm zm fc zc W (SFV.out.below hW) (SZ.out.below (BV.out.trans (hW.mono BV.out.size))))
        clear hVV p2 d0 d3 d4 s0 s1 s2 bV0 bV1 bV2 bV hV hV1 v1 hx hBw HEc HPc c1 c2
        refine wp_drawn_on (fun W => Below V.heap.size V W) (by kernel_rfl) ((Below.refl _ _).drew) (fun hHeld => ?_)
        refine wT 0 (v := ?v14) rfl (by kernel_rfl) (fun _ _ _ h => h) ?h14 (by assumption) ?r14
        case h14 => (intro w hSw; (try dsimp only at hSw); go_simp; try with_reducible rfl)
        refine wT 1 (v := ?v15) rfl (by kernel_rfl) (fun _ _ _ h => h) ?h15 (by assumption) ?r15
        case h15 => (intro w hSw; (try dsimp only at hSw); go_simp; try with_reducible rfl)
        refine wT 2 (v := ?v16) rfl (by kernel_rfl) (fun _ _ _ h => h) ?h16 (by assumption) ?r16
        case h16 => (intro w hSw; (try dsimp only at hSw); go_simp; try with_reducible rfl)
        refine wT 3 (v := ?v17) rfl (by kernel_rfl) (fun _ _ _ h => h) ?h17 (by assumption) ?r17
        case h17 => (intro w hSw; (try dsimp only at hSw); go_simp; try with_reducible rfl)
        refine wT 4 (v := ?v18) rfl (by kernel_rfl) (fun _ _ _ h => h) ?h18 (by assumption) ?r18
        case h18 => (intro w hSw; (try dsimp only at hSw); go_simp; try with_reducible rfl)
        refine wT 5 (v := ?v19) rfl (by kernel_rfl) (fun _ _ _ h => h) ?h19 (by assumption) ?r19
        case h19 => (intro w hSw; (try dsimp only at hSw); go_simp; try with_reducible rfl)
        try simp only [Act.put, List.setIfInBounds_toArray, List.set_cons_zero, List.set_cons_succ]
        refine wpAnyH_ready (rs := [6]) (by kernel_rfl) (by simp) ?_
        refine AllReadyH.cons (o := ⟨_, _, _, _, _, _⟩) rfl (fun K hK => ?_) AllReadyH.nil
        go_simp
        with_reducible refine (qz.out _ hHeld).mono ?_
        rintro e v6 ⟨rfl, b6⟩
        go_simp
        refine hK.out _ _ (hHeld.trans (b6.mono hHeld.size)) (fun hHeld => ?_)
        clear hK K
        try simp only [Act.put, List.setIfInBounds_toArray, List.set_cons_zero, List.set_cons_succ]
        refine wpAnyH_done (by kernel_rfl) ?_ _
        have HP6 := HPV.out.below hHeld HPV.out.lt
        have HE6 := HEV.out.below hHeld HEV.out.lt
        have HA6 := hAV.out.below hHeld hAV.out.lt
        have HV6 := HV.out.below hHeld HV.out.lt
        have BV6 := BV.out.trans (hHeld.mono BV.out.size)
        have hwl := BL.out.size
        have hxl := hx'.out.size
        clear m0 m1 m2 m3 m4 qz b6
        by_cases hsm : FL = lz
        · have hsb : decide (FL = lz) = true := decide_eq_true hsm
          have hsb' := Lib.hid hsb
          rw [hsb]
          have HP7 := HP6.far (p := ⟨wc.heap.size + 1, 1, none⟩) (by show w.heap.size ≠ wc.heap.size + 1; omega) (.int .i64 2)
          have HE7 := HE6.far (p := ⟨wc.heap.size + 1, 1, none⟩) (by show w.heap.size + 1 + 1 ≠ wc.heap.size + 1; omega) (.int .i64 2)
          have HA7 := HA6.far (p := ⟨wc.heap.size + 1, 1, none⟩) (by show w.heap.size + 1 ≠ wc.heap.size + 1; omega) (.int .i64 2)
          have HV7 := HV6.set 1 (.int .i64 2)
          simp only [List.setIfInBounds_toArray, List.set_cons_zero, List.set_cons_succ] at HV7
          have BV7 := BV6.setCell (p := ⟨wc.heap.size + 1, 1, none⟩) (by show w.heap.size ≤ wc.heap.size + 1; omega) (.int .i64 2)
          have cc1 := HV6.cell 1
          have ff1 := HV6.free 1
          simp at cc1
          obtain ⟨V7, hV7⟩ : ∃ V7, V7 = (v6.setCell ⟨wc.heap.size + 1, 1, none⟩ (.int .i64 2)) := ⟨_, rfl⟩
          have k1 := HP7.cell 1
          have d2 := HE7.cell 2
          have d3 := HE7.cell 3
          have d4 := HE7.cell 4
          have d5 := HE7.cell 5
          have d6 := HE7.cell 6
          simp at k1 d2 d3 d4 d5 d6
          rw [← hV7] at HA7 HV7 BV7
          have hV7' := Lib.hid hV7
          have qs := Lib.hid (q2.out V7 (VV.out.below BV7))
          clear hV7 HP6 HE6 HA6 HV6 BV6 HP7 HE7 HPV HEV HZV hAV HV hHeld
          go_wp2_with fail
          rw [← hV7'.out]
          with_reducible refine qs.out.mono ?_
          rintro e v8 ⟨rfl, b8⟩
          have HA8 := HA7.below b8 HA7.lt
          have HV8 := HV7.below b8 HV7.lt
          have BV8 := BV7.trans (b8.mono BV7.size)
          clear b8 qs hV7' HA7 HV7 BV7 k1 d2 d3 d4 d5 d6
          have cc5 := HV8.cell 5
          have ff5 := HV8.free 5
          simp at cc5
          have HV9 := HV8.set 5 (.string (SP.extract 6 SP.size))
          simp only [List.setIfInBounds_toArray, List.set_cons_zero, List.set_cons_succ] at HV9
          have HA9 := HA8.far (p := ⟨wc.heap.size + 1, 5, none⟩) (by show w.heap.size + 1 ≠ wc.heap.size + 1; omega) (.string (SP.extract 6 SP.size))
          have BV9 := Lib.hid (BV8.setCell (p := ⟨wc.heap.size + 1, 5, none⟩) (by show w.heap.size ≤ wc.heap.size + 1; omega) (.string (SP.extract 6 SP.size)))
          have g0 := HV9.cell 0
          have g1 := HV9.cell 1
          have g2 := HV9.cell 2
          have g3 := HV9.cell 3
          have g4 := HV9.cell 4
          have g5 := HV9.cell 5
          have a0 := HA9.cell 0
          have a1 := HA9.cell 1
          have a2 := HA9.cell 2
          have a3 := HA9.cell 3
          have a4 := HA9.cell 4
          have a5 := HA9.cell 5
          have f0 := HA9.free 0
          have f1 := HA9.free 1
          have f2 := HA9.free 2
          have f3 := HA9.free 3
          have f4 := HA9.free 4
          have f5 := HA9.free 5
          simp at g0 g1 g2 g3 g4 g5 a0 a1 a2 a3 a4 a5
          have hfin := Lib.hid (al_set HA9 (.int .i64 3) (.int .i64 2) (.string sf) (.string sfi) (.int .i64 sl) (.string (SP.extract 6 SP.size)))
          clear HV8 HA8 BV8 HV9 HA9
          go_wp2
          exact al_ret2 (u := .bool true) hfin.out.1 ⟨by rw [hkd.out, hS7'.out, hsb'.out]; rfl, BV9.out.trans (below_of (hfin.out.2.mono BV9.out.size) (fun x hx => by rw [List.mem_singleton.1 hx]; omega))⟩ _ _ 6 7 rfl rfl rfl rfl
        · have hsb : decide (FL = lz) = false := decide_eq_false hsm
          have hsb' := Lib.hid hsb
          rw [hsb]
          have HP7 := HP6
          have HE7 := HE6
          have HA7 := HA6
          have HV7 := HV6
          have BV7 := BV6
          obtain ⟨V7, hV7⟩ : ∃ V7, V7 = v6 := ⟨_, rfl⟩
          have k1 := HP7.cell 1
          have d2 := HE7.cell 2
          have d3 := HE7.cell 3
          have d4 := HE7.cell 4
          have d5 := HE7.cell 5
          have d6 := HE7.cell 6
          simp at k1 d2 d3 d4 d5 d6
          rw [← hV7] at HA7 HV7 BV7
          have hV7' := Lib.hid hV7
          have qs := Lib.hid (q2.out V7 (VV.out.below BV7))
          clear hV7 HP6 HE6 HA6 HV6 BV6 HP7 HE7 HPV HEV HZV hAV HV hHeld
          go_wp2_with fail
          rw [← hV7'.out]
          with_reducible refine qs.out.mono ?_
          rintro e v8 ⟨rfl, b8⟩
          have HA8 := HA7.below b8 HA7.lt
          have HV8 := HV7.below b8 HV7.lt
          have BV8 := BV7.trans (b8.mono BV7.size)
          clear b8 qs hV7' HA7 HV7 BV7 k1 d2 d3 d4 d5 d6
          have cc5 := HV8.cell 5
          have ff5 := HV8.free 5
          simp at cc5
          have HV9 := HV8.set 5 (.string (SP.extract 6 SP.size))
          simp only [List.setIfInBounds_toArray, List.set_cons_zero, List.set_cons_succ] at HV9
          have HA9 := HA8.far (p := ⟨wc.heap.size + 1, 5, none⟩) (by show w.heap.size + 1 ≠ wc.heap.size + 1; omega) (.string (SP.extract 6 SP.size))
          have BV9 := Lib.hid (BV8.setCell (p := ⟨wc.heap.size + 1, 5, none⟩) (by show w.heap.size ≤ wc.heap.size + 1; omega) (.string (SP.extract 6 SP.size)))
          have g0 := HV9.cell 0
          have g1 := HV9.cell 1
          have g2 := HV9.cell 2
          have g3 := HV9.cell 3
          have g4 := HV9.cell 4
          have g5 := HV9.cell 5
          have a0 := HA9.cell 0
          have a1 := HA9.cell 1
          have a2 := HA9.cell 2
          have a3 := HA9.cell 3
          have a4 := HA9.cell 4
          have a5 := HA9.cell 5
          have f0 := HA9.free 0
          have f1 := HA9.free 1
          have f2 := HA9.free 2
          have f3 := HA9.free 3
          have f4 := HA9.free 4
          have f5 := HA9.free 5
          simp at g0 g1 g2 g3 g4 g5 a0 a1 a2 a3 a4 a5
          have hfin := Lib.hid (al_set HA9 (.int .i64 3) (.int .i64 1) (.string sf) (.string sfi) (.int .i64 sl) (.string (SP.extract 6 SP.size)))
          clear HV8 HA8 BV8 HV9 HA9
          go_wp2
          exact al_ret2 (u := .bool true) hfin.out.1 ⟨by rw [hkd.out, hS7'.out, hsb'.out]; rfl, BV9.out.trans (below_of (hfin.out.2.mono BV9.out.size) (fun x hx => by rw [List.mem_singleton.1 hx]; omega))⟩ _ _ 6 7 rfl rfl rfl rfl
      · have ex1 : (ex == 0) = false := by simpa using hx0
        have hkd : Hid (kindA ex ey = 1) := Lib.hid (by unfold kindA; rw [if_neg hy, if_neg hx0])
        clear hy hx0
        obtain ⟨V1, hV1⟩ : ∃ V1, V1 = wc.alloc (.cells #[.string sf, .string sfi, .int .i64 sl] 80) := ⟨_, rfl⟩
        obtain ⟨V, hV⟩ : ∃ V, V = V1.alloc (.cells #[.int .i64 1, .int .i64 1, .string sf, .string sfi, .int .i64 sl, .string ⟨#[]⟩] 23) := ⟨_, rfl⟩
        have v1 : V1.heap.size = wc.heap.size + 1 := by rw [hV1]; simp
        have bV1 : Below wc.heap.size wc V1 := by rw [hV1]; exact box_below _ _ _
        have bV2 : Below V1.heap.size V1 V := by rw [hV]; exact box_below _ _ _
        have bV := bV1.trans (bV2.mono bV1.size)
        have HV := Lib.hid (show Holds V (wc.heap.size + 1) 23 #[.int .i64 1, .int .i64 1, .string sf, .string sfi, .int .i64 sl, .string ⟨#[]⟩] by rw [hV, ← v1]; exact Holds.new _ _ _)
        have bV0 : Below wc.heap.size wc (V1.alloc (.cells #[.int .i64 1, .int .i64 1, .string sf, .string sfi, .int .i64 sl, .string ⟨#[]⟩] 23)) := bV1.trans ((box_below V1 _ _).mono bV1.size)
        have d4 := (HEc.below bV0 HEc.lt).cell 4
        have d3 := (HEc.below bV0 HEc.lt).cell 3
        simp at d3 d4
        have hVV := Lib.hid (And.intro hV1 hV)
        rw [hV1] at d3 d4
        go_upto_region 11 with fail
        rw [← hVV.out.1, ← hVV.out.2]
        have HPV := Lib.hid (HPc.below bV HPc.lt)
        have HEV := Lib.hid (HEc.below bV HEc.lt)
        have HZV := Lib.hid (HZ'.out.below bV HZ'.out.lt)
        have SFV := Lib.hid (SF'.out.below bV)
        have BV := Lib.hid (hBw.trans (bV.mono hBw.size))
        have hAV := Lib.hid ((HA.out.below hx hAl).below bV (Nat.lt_of_lt_of_le hAl hx.size))
        have hgl := HZ'.out.lt
        have m0 : ∀ W, Below V.heap.size V W → W.cell? ⟨w.heap.size + 1 + 1, 0, none⟩ = some (.int .i64 f) := fun W hW => (HEV.out.below hW HEV.out.lt).cell 0
        have m1 : ∀ W, Below V.heap.size V W → W.cell? ⟨g, 0, none⟩ = some (.int .i64 pn1) := fun W hW => (HZV.out.below hW HZV.out.lt).cell 0
        have m2 : ∀ W, Below V.heap.size V W → W.cell? ⟨g, 1, none⟩ = some (.slice fa fm fc) := fun W hW => (HZV.out.below hW HZV.out.lt).cell 1
        have m3 : ∀ W, Below V.heap.size V W → W.cell? ⟨bz, oz + f * 2, none⟩ = some (.int .i64 pn1) := fun W hW => hzl.out _ _ Q0.out W (BV.out.trans (hW.mono BV.out.size))
        have m4 : ∀ W, Below V.heap.size V W → W.cell? ⟨bz, oz + f * 2 + 1, none⟩ = some (.slice za zm zc) := fun W hW => hzl.out _ _ Q1.out W (BV.out.trans (hW.mono BV.out.size))
        have qz := Lib.hid (fun W (hW : Below V.heap.size V W) => zrsame_any pn1 pn1 fa za FL lz fm zm fc zc W (SFV.out.below hW) (SZ.out.below (BV.out.trans (hW.mono BV.out.size))))
        clear hVV p2 d0 d3 d4 s0 s1 s2 bV0 bV1 bV2 bV hV hV1 v1 hx hBw HEc HPc c1 c2
        refine wp_drawn_on (fun W => Below V.heap.size V W) (by kernel_rfl) ((Below.refl _ _).drew) (fun hHeld => ?_)
        refine wT 0 (v := ?v20) rfl (by kernel_rfl) (fun _ _ _ h => h) ?h20 (by assumption) ?r20
        case h20 => (intro w hSw; (try dsimp only at hSw); go_simp; try with_reducible rfl)
        refine wT 1 (v := ?v21) rfl (by kernel_rfl) (fun _ _ _ h => h) ?h21 (by assumption) ?r21
        case h21 => (intro w hSw; (try dsimp only at hSw); go_simp; try with_reducible rfl)
        refine wT 2 (v := ?v22) rfl (by kernel_rfl) (fun _ _ _ h => h) ?h22 (by assumption) ?r22
        case h22 => (intro w hSw; (try dsimp only at hSw); go_simp; try with_reducible rfl)
        refine wT 3 (v := ?v23) rfl (by kernel_rfl) (fun _ _ _ h => h) ?h23 (by assumption) ?r23
        case h23 => (intro w hSw; (try dsimp only at hSw); go_simp; try with_reducible rfl)
        refine wT 4 (v := ?v24) rfl (by kernel_rfl) (fun _ _ _ h => h) ?h24 (by assumption) ?r24
        case h24 => (intro w hSw; (try dsimp only at hSw); go_simp; try with_reducible rfl)
        refine wT 5 (v := ?v25) rfl (by kernel_rfl) (fun _ _ _ h => h) ?h25 (by assumption) ?r25
        case h25 => (intro w hSw; (try dsimp only at hSw); go_simp; try with_reducible rfl)
        try simp only [Act.put, List.setIfInBounds_toArray, List.set_cons_zero, List.set_cons_succ]
        refine wpAnyH_ready (rs := [6]) (by kernel_rfl) (by simp) ?_
        refine AllReadyH.cons (o := ⟨_, _, _, _, _, _⟩) rfl (fun K hK => ?_) AllReadyH.nil
        go_simp
        with_reducible refine (qz.out _ hHeld).mono ?_
        rintro e v6 ⟨rfl, b6⟩
        go_simp
        refine hK.out _ _ (hHeld.trans (b6.mono hHeld.size)) (fun hHeld => ?_)
        clear hK K
        try simp only [Act.put, List.setIfInBounds_toArray, List.set_cons_zero, List.set_cons_succ]
        refine wpAnyH_done (by kernel_rfl) ?_ _
        have HP6 := HPV.out.below hHeld HPV.out.lt
        have HE6 := HEV.out.below hHeld HEV.out.lt
        have HA6 := hAV.out.below hHeld hAV.out.lt
        have HV6 := HV.out.below hHeld HV.out.lt
        have BV6 := BV.out.trans (hHeld.mono BV.out.size)
        have hwl := BL.out.size
        have hxl := hx'.out.size
        clear m0 m1 m2 m3 m4 qz b6
        by_cases hsm : FL = lz
        · have hsb : decide (FL = lz) = true := decide_eq_true hsm
          have hsb' := Lib.hid hsb
          rw [hsb]
          have HP7 := HP6.far (p := ⟨wc.heap.size + 1, 1, none⟩) (by show w.heap.size ≠ wc.heap.size + 1; omega) (.int .i64 2)
          have HE7 := HE6.far (p := ⟨wc.heap.size + 1, 1, none⟩) (by show w.heap.size + 1 + 1 ≠ wc.heap.size + 1; omega) (.int .i64 2)
          have HA7 := HA6.far (p := ⟨wc.heap.size + 1, 1, none⟩) (by show w.heap.size + 1 ≠ wc.heap.size + 1; omega) (.int .i64 2)
          have HV7 := HV6.set 1 (.int .i64 2)
          simp only [List.setIfInBounds_toArray, List.set_cons_zero, List.set_cons_succ] at HV7
          have BV7 := BV6.setCell (p := ⟨wc.heap.size + 1, 1, none⟩) (by show w.heap.size ≤ wc.heap.size + 1; omega) (.int .i64 2)
          have cc1 := HV6.cell 1
          have ff1 := HV6.free 1
          simp at cc1
          obtain ⟨V7, hV7⟩ : ∃ V7, V7 = (v6.setCell ⟨wc.heap.size + 1, 1, none⟩ (.int .i64 2)) := ⟨_, rfl⟩
          have k1 := HP7.cell 1
          have d2 := HE7.cell 2
          have d3 := HE7.cell 3
          have d4 := HE7.cell 4
          have d5 := HE7.cell 5
          have d6 := HE7.cell 6
          simp at k1 d2 d3 d4 d5 d6
          rw [← hV7] at HA7 HV7 BV7
          have hV7' := Lib.hid hV7
          have qs := Lib.hid (q2.out V7 (VV.out.below BV7))
          clear hV7 HP6 HE6 HA6 HV6 BV6 HP7 HE7 HPV HEV HZV hAV HV hHeld
          go_wp2_with fail
          rw [← hV7'.out]
          with_reducible refine qs.out.mono ?_
          rintro e v8 ⟨rfl, b8⟩
          have HA8 := HA7.below b8 HA7.lt
          have HV8 := HV7.below b8 HV7.lt
          have BV8 := BV7.trans (b8.mono BV7.size)
          clear b8 qs hV7' HA7 HV7 BV7 k1 d2 d3 d4 d5 d6
          have cc5 := HV8.cell 5
          have ff5 := HV8.free 5
          simp at cc5
          have HV9 := HV8.set 5 (.string (SP.extract 6 SP.size))
          simp only [List.setIfInBounds_toArray, List.set_cons_zero, List.set_cons_succ] at HV9
          have HA9 := HA8.far (p := ⟨wc.heap.size + 1, 5, none⟩) (by show w.heap.size + 1 ≠ wc.heap.size + 1; omega) (.string (SP.extract 6 SP.size))
          have BV9 := Lib.hid (BV8.setCell (p := ⟨wc.heap.size + 1, 5, none⟩) (by show w.heap.size ≤ wc.heap.size + 1; omega) (.string (SP.extract 6 SP.size)))
          have g0 := HV9.cell 0
          have g1 := HV9.cell 1
          have g2 := HV9.cell 2
          have g3 := HV9.cell 3
          have g4 := HV9.cell 4
          have g5 := HV9.cell 5
          have a0 := HA9.cell 0
          have a1 := HA9.cell 1
          have a2 := HA9.cell 2
          have a3 := HA9.cell 3
          have a4 := HA9.cell 4
          have a5 := HA9.cell 5
          have f0 := HA9.free 0
          have f1 := HA9.free 1
          have f2 := HA9.free 2
          have f3 := HA9.free 3
          have f4 := HA9.free 4
          have f5 := HA9.free 5
          simp at g0 g1 g2 g3 g4 g5 a0 a1 a2 a3 a4 a5
          have hfin := Lib.hid (al_set HA9 (.int .i64 1) (.int .i64 2) (.string sf) (.string sfi) (.int .i64 sl) (.string (SP.extract 6 SP.size)))
          clear HV8 HA8 BV8 HV9 HA9
          go_wp2
          exact al_ret2 (u := .bool true) hfin.out.1 ⟨by rw [hkd.out, hS7'.out, hsb'.out]; rfl, BV9.out.trans (below_of (hfin.out.2.mono BV9.out.size) (fun x hx => by rw [List.mem_singleton.1 hx]; omega))⟩ _ _ 6 7 rfl rfl rfl rfl
        · have hsb : decide (FL = lz) = false := decide_eq_false hsm
          have hsb' := Lib.hid hsb
          rw [hsb]
          have HP7 := HP6
          have HE7 := HE6
          have HA7 := HA6
          have HV7 := HV6
          have BV7 := BV6
          obtain ⟨V7, hV7⟩ : ∃ V7, V7 = v6 := ⟨_, rfl⟩
          have k1 := HP7.cell 1
          have d2 := HE7.cell 2
          have d3 := HE7.cell 3
          have d4 := HE7.cell 4
          have d5 := HE7.cell 5
          have d6 := HE7.cell 6
          simp at k1 d2 d3 d4 d5 d6
          rw [← hV7] at HA7 HV7 BV7
          have hV7' := Lib.hid hV7
          have qs := Lib.hid (q2.out V7 (VV.out.below BV7))
          clear hV7 HP6 HE6 HA6 HV6 BV6 HP7 HE7 HPV HEV HZV hAV HV hHeld
          go_wp2_with fail
          rw [← hV7'.out]
          with_reducible refine qs.out.mono ?_
          rintro e v8 ⟨rfl, b8⟩
          have HA8 := HA7.below b8 HA7.lt
          have HV8 := HV7.below b8 HV7.lt
          have BV8 := BV7.trans (b8.mono BV7.size)
          clear b8 qs hV7' HA7 HV7 BV7 k1 d2 d3 d4 d5 d6
          have cc5 := HV8.cell 5
          have ff5 := HV8.free 5
          simp at cc5
          have HV9 := HV8.set 5 (.string (SP.extract 6 SP.size))
          simp only [List.setIfInBounds_toArray, List.set_cons_zero, List.set_cons_succ] at HV9
          have HA9 := HA8.far (p := ⟨wc.heap.size + 1, 5, none⟩) (by show w.heap.size + 1 ≠ wc.heap.size + 1; omega) (.string (SP.extract 6 SP.size))
          have BV9 := Lib.hid (BV8.setCell (p := ⟨wc.heap.size + 1, 5, none⟩) (by show w.heap.size ≤ wc.heap.size + 1; omega) (.string (SP.extract 6 SP.size)))
          have g0 := HV9.cell 0
          have g1 := HV9.cell 1
          have g2 := HV9.cell 2
          have g3 := HV9.cell 3
          have g4 := HV9.cell 4
          have g5 := HV9.cell 5
          have a0 := HA9.cell 0
          have a1 := HA9.cell 1
          have a2 := HA9.cell 2
          have a3 := HA9.cell 3
          have a4 := HA9.cell 4
          have a5 := HA9.cell 5
          have f0 := HA9.free 0
          have f1 := HA9.free 1
          have f2 := HA9.free 2
          have f3 := HA9.free 3
          have f4 := HA9.free 4
          have f5 := HA9.free 5
          simp at g0 g1 g2 g3 g4 g5 a0 a1 a2 a3 a4 a5
          have hfin := Lib.hid (al_set HA9 (.int .i64 1) (.int .i64 1) (.string sf) (.string sfi) (.int .i64 sl) (.string (SP.extract 6 SP.size)))
          clear HV8 HA8 BV8 HV9 HA9
          go_wp2
          exact al_ret2 (u := .bool true) hfin.out.1 ⟨by rw [hkd.out, hS7'.out, hsb'.out]; rfl, BV9.out.trans (below_of (hfin.out.2.mono BV9.out.size) (fun x hx => by rw [List.mem_singleton.1 hx]; omega))⟩ _ _ 6 7 rfl rfl rfl rfl
end Go.Proofs.YtimgocfkogebmaaGreatDoor
namespace Go.Proofs.YtimgocfkogebmaaGreatDoor
open Go.RowKit
set_option linter.unusedVariables false
theorem SeesC.cut {B : Nat} {w : World} {a : Option Addr} {cs : List Value} (h : SeesC B w a cs) (size lo hi cap : Nat) (hl : hi * size ≤ cs.length) (hlo : lo ≤ hi) (hc : hi ≤ cap) (hz : 0 < size) :
    ∃ a', sliced a lo hi cap size = .slice a' (hi - lo) (cap - lo) ∧ SeesC B w a' ((cs.take (hi * size)).drop (lo * size)) ∧ (a = none → a' = none) := by
  unfold sliced
  refine ⟨_, rfl, ?_, by rintro rfl; split <;> rfl⟩
  by_cases h0 : lo = hi
  · left; subst h0; exact List.drop_of_length_le (by simp; omega)
  have hmul : lo * size < hi * size := Nat.mul_lt_mul_of_pos_right (by omega) hz
  rcases h with rfl | ⟨b, off, rfl, hB, hcell⟩
  · simp at hl; omega
  · right
    have h1 : ¬ (cap = lo) := by omega
    have key : ∀ i u, ((cs.take (hi * size)).drop (lo * size))[i]? = some u → cs[lo * size + i]? = some u := by
      intro i u hu
      rw [List.getElem?_drop] at hu
      rw [List.getElem?_take] at hu
      split at hu
      · exact hu
      · cases hu
    refine ⟨b, off + lo * size, ?_, hB, fun i u hi' => ?_⟩
    · simp only [h1, if_false]
      simp only [Option.map_some, add_at]
    · rw [Nat.add_assoc]
      exact hcell _ _ (key i u hi')
theorem ccut_l {P : Program} {t : TypeId} {size : Nat} (ht : P.underlying t = some (.slice (P.elem t))) (hs : ∀ W, (sizeOf (P.elem t)).run P W = .ok size W) (a : Option Addr) (n cap lo : Nat) {a' : Option Addr} {m c : Nat} (h : sliced a lo n cap size = .slice a' m c) (hlo : lo ≤ n) (W : World) :
    (Instr.slice t (.slice a n cap) (some (.int .i64 (lo : Int))) none none).run P W = .ok (.slice a' m c) W := by
  rw [← h, run_slice_l (P := P) (w := W) t a n cap ht .i64 lo (by omega) (by omega), hs]
  simp [Result.andThen]
theorem ccut_hm {P : Program} {t : TypeId} {size : Nat} (ht : P.underlying t = some (.slice (P.elem t))) (hs : ∀ W, (sizeOf (P.elem t)).run P W = .ok size W) (a : Option Addr) (n cap hi mx : Nat) {a' : Option Addr} {m c : Nat} (h : sliced a 0 hi mx size = .slice a' m c) (hhi : hi ≤ mx) (hm : mx ≤ cap) (W : World) :
    (Instr.slice t (.slice a n cap) none (some (.int .i64 (hi : Int))) (some (.int .i64 (mx : Int)))).run P W = .ok (.slice a' m c) W := by
  rw [← h, run_slice_hm (P := P) (w := W) t a n cap ht .i64 .i64 hi mx (by omega) (by omega) (by omega), hs]
  simp [Result.andThen]
theorem wp_append_full {P : Program} (w : World) {o : Oper} {a : Act} {K : Act → World → Prop} {Q : Exit → Act → World → Prop}
    (s x : Operand) (t : TypeId) (hop : o.op = Op.call { callee := Callee.builtin Builtin.append, args := #[s, x], argTypes := #[t, t] })
    (e : TypeId) (i : TypeInfo) (z : Value) (size bytes : Nat) (h1 : P.underlying t = some (.slice e)) (h2 : P.info? e = some i) (h3 : i.zero = some z) (h4 : i.size = size) (h5 : i.bytes = bytes) (h6 : z.cells.size = size) (h7 : 0 < size)
    (ao : Option Addr) (n cap : Nat) (olds : List Value) (hs : a.eval s = .slice ao n cap) (hnone : ao = none → n = 0 ∧ cap = 0) (hlo : olds.length = n * size) (B : Nat) (holds : SeesC B w ao olds)
    (ad : Addr) (m c : Nat) (news : List Value) (hx : a.eval x = .slice (some ad) m c) (hn : news.length = m * size) (hc : SeesC B w (some ad) news) (h1c : ∀ u ∈ news, u.oneCell' = true)
    (hfull : cap < n + m) (b1 : n + m ≤ maxLen) (b2 : (n + m) * bytes ≤ 140737488355328)
    (hK : ∀ v' w', w'.ownsRow w.heap.size e size v' (n + m) (olds ++ news) → w.grownBy w' none → K (a.put o.dst v') w') : o.wp P a w K Q := by
  have look : ∀ {b : Addr} {cs : List Value}, SeesC B w (some b) cs → ∀ j u, cs[j]? = some u → w.cell? (b.add j) = some u := by
    intro b cs h j u hu
    rcases h with rfl | ⟨g, off, hb, _, hcell⟩
    · simp at hu
    · injection hb with hb; subst hb; rw [add_at]; exact hcell j u hu
  cases ao with
  | some b =>
    obtain ⟨v', w', hrun, r1, r2⟩ := run_append_arg_grows (P := P) w t o.type e i z size bytes h1 h2 h3 h4 h5 h6 h7 b n cap olds hlo (look holds) ad m c news hn (look hc) hfull b1 b2
    unfold Oper.wp
    simp [execOp, hop, resolve, invoke, builtin, hs, hx, hrun, Result.andThen]
    exact hK v' w' r1 r2
  | none =>
    obtain ⟨rfl, rfl⟩ := hnone rfl
    obtain rfl : olds = [] := List.eq_nil_of_length_eq_zero (by simpa using hlo)
    obtain ⟨v', w', hrun, r1, r2, _⟩ := run_append_own (P := P) w w.heap.size t o.type e i z size bytes h1 h2 h3 h4 h5 h6 h7 (.slice none 0 0) 0 [] (World.ownsRow_nil w _ e size) ad m c news hn (look hc) h1c b1 b2 (Nat.le_refl _)
    unfold Oper.wp
    simp [execOp, hop, resolve, invoke, builtin, hs, hx, hrun, Result.andThen]
    exact hK v' w' r1 r2
theorem wp_append_cellsB {P : Program} (w : World) {o : Oper} {a : Act} {K : Act → World → Prop} {Q : Exit → Act → World → Prop}
    (s x : Operand) (t : TypeId) (hop : o.op = Op.call { callee := Callee.builtin Builtin.append, args := #[s, x], argTypes := #[t, t] })
    (base : Nat) (e : TypeId) (i : TypeInfo) (z : Value) (size bytes : Nat) (ht : P.underlying t = some (.slice e)) (hi : P.info? e = some i) (hz : i.zero = some z)
    (hsize : i.size = size) (hby : i.bytes = bytes) (hzs : z.cells.size = size) (hsz : 0 < size)
    (v : Value) (n : Nat) (xs : List Value) (hown : w.ownsRow base e size v n xs) (hb : base ≤ w.heap.size) (B : Nat) (A : Option Addr) (m c : Nat) (news : List Value) (hl : news.length = m * size) (hs : SeesC B w A news) (h1 : ∀ u ∈ news, u.oneCell' = true)
    (hsv : a.eval s = v) (hx : a.eval x = .slice A m c) (hn : n + m ≤ maxLen) (hby2 : (n + m) * bytes ≤ 140737488355328)
    (hK : ∀ v' w', w'.ownsRow base e size v' (n + m) (xs ++ news) → w.grownBy w' v.ownBlock → K (a.put o.dst v') w') : o.wp P a w K Q := by
  obtain ⟨v', w', hrun, g1, g2, g3⟩ := run_append_cellsB (P := P) w base t o.type e i z size bytes ht hi hz hsize hby hzs hsz v n xs hown B A m c news hl hs h1 hn hby2 hb
  unfold Oper.wp
  simp [execOp, hop, resolve, invoke, builtin, hsv, hx, hrun, Result.andThen]
  exact hK v' w' g1 g2
end Go.Proofs.YtimgocfkogebmaaGreatDoor
namespace Go.Proofs.YtimgocfkogebmaaGreatDoor
open Go.RowKit
set_option linter.unusedVariables false
set_option linter.unusedSimpArgs false
theorem size_al (W : World) : (sizeOf (Tryz.prog.elem 24)).run Tryz.prog W = .ok 6 W := by kernel_rfl
theorem under_al : Tryz.prog.underlying 24 = some (.slice (Tryz.prog.elem 24)) := by kernel_rfl
theorem alcells_drop (L : List AlD) (q : Nat) (h : q ≤ L.length) : (alcells L).drop (q * 6) = alcells (L.drop q) := by
  conv => lhs; rw [← List.take_append_drop q L, alcells_app]
  have e : (alcells (L.take q)).length = q * 6 := by rw [alcells_len, List.length_take]; congr 1; omega
  rw [List.drop_left' e]
theorem alcells_take (L : List AlD) (q : Nat) (h : q ≤ L.length) : (alcells L).take (q * 6) = alcells (L.take q) := by
  conv => lhs; rw [← List.take_append_drop q L, alcells_app]
  have e : (alcells (L.take q)).length = q * 6 := by rw [alcells_len, List.length_take]; congr 1; omega
  rw [List.take_left' e]
theorem sortA_step (l : List AlD) {i : Nat} (hi : i < l.length) {k : Nat} (hk : k ≤ (sortC cmpA (l.take i)).length) (h1 : ∀ j, k ≤ j → j < (sortC cmpA (l.take i)).length → 0 < cmpA ((sortC cmpA (l.take i)).getD j al0) (l.getD i al0)) (h2 : k = 0 ∨ ¬ 0 < cmpA ((sortC cmpA (l.take i)).getD (k - 1) al0) (l.getD i al0)) :
    sortC cmpA (l.take (i + 1)) = (sortC cmpA (l.take i)).take k ++ l.getD i al0 :: (sortC cmpA (l.take i)).drop k := by
  have e : l.take (i + 1) = l.take i ++ [l.getD i al0] := by rw [List.take_add_one]; simp [List.getD, hi]
  rw [e, sortC_snoc]
  exact insF_place cmpA (l.getD i al0) al0 _ k hk h1 h2
set_option maxRecDepth 100000 in
set_option maxHeartbeats 8000000 in
theorem rasorted_any (a : Option Addr) (n c : Nat) (l : List AlD) (hn : n ≤ 100000) (w : World) (h : RO alC w a n c l) : Calls Tryz.prog 15 #[.slice a n c] w (AlGives w (sortC cmpA l)) := by
  obtain ⟨i0, z0, hi, hz0, hz1, hz2, hz6⟩ := infoAlZ
  have hT := Lib.hid h
  have hnl := Lib.hid h.len
  have hni : (n : Int) ≤ 100000 := by omega
  clear h
  go_enter Tryz.func15, Tryz.ntmps15
  go_wp2
  go_loopw [3, 4] (fun v x wr => ∃ k : Nat, k ≤ n ∧ x = .int .i64 k ∧ Hid (wr.ownsRow w.heap.size 23 6 v k (alcells (sortC cmpA (l.take k)))) ∧ Hid (Below w.heap.size w wr)) (fun _ x _ => n - (intOf x).toNat)
  case atStart => exact ⟨0, Nat.zero_le _, rfl, Lib.hid ⟨by simp [alcells, sortC, backF], .inl ⟨rfl, rfl⟩⟩, Lib.hid (Below.refl _ _)⟩
  case round =>
    obtain ⟨i, hin, rfl, hown, hB⟩ := hrel
    generalize wr = g0 at *
    by_cases hlt : i < n
    · have hii : (i : Int) < (n : Int) := by omega
      have hil : i < l.length := by have := hnl.out; omega
      obtain ⟨b, off, rfl, hbw, x0, x1, x2, x3, x4, x5⟩ := al_at hT.out hlt
      have hst := Lib.hid (fun (k : Nat) hk h1 h2 => sortA_step l hil (k := k) hk h1 h2)
      have hol : (sortC cmpA (l.take i)).length = i := by rw [sortA_len, List.length_take]; omega
      obtain ⟨O2, hO2e⟩ : ∃ O2, sortC cmpA (l.take (i + 1)) = O2 := ⟨_, rfl⟩
      rw [hO2e] at hst
      have hOe := Lib.hid hO2e
      clear hO2e
      generalize sortC cmpA (l.take i) = O at *
      generalize l.getD i al0 = s at *
      have q1 := Lib.hid (fun y W => acmp_any y s W)
      have hfin5 : Hid (∀ k, alcells (O.take k ++ s :: O.drop k) = alcells (O.take k) ++ alC s ++ alcells (O.drop k)) := Lib.hid (fun k => by simp [alcells])
      obtain ⟨sk, ssv, sf, sfi, sl, sx⟩ := s
      dsimp only at x0 x1 x2 x3 x4 x5
      have s0 : ∀ W, Below w.heap.size w W → W.cell? ⟨b, off + i * 6, none⟩ = some (.int .i64 sk) := fun W hW => (hW.cell (p := ⟨b, off + i * 6, none⟩) hbw).trans x0
      have s1 : ∀ W, Below w.heap.size w W → W.cell? ⟨b, off + i * 6 + 1, none⟩ = some (.int .i64 ssv) := fun W hW => (hW.cell (p := ⟨b, off + i * 6 + 1, none⟩) hbw).trans x1
      have s2 : ∀ W, Below w.heap.size w W → W.cell? ⟨b, off + i * 6 + 2, none⟩ = some (.string sf) := fun W hW => (hW.cell (p := ⟨b, off + i * 6 + 2, none⟩) hbw).trans x2
      have s3 : ∀ W, Below w.heap.size w W → W.cell? ⟨b, off + i * 6 + 3, none⟩ = some (.string sfi) := fun W hW => (hW.cell (p := ⟨b, off + i * 6 + 3, none⟩) hbw).trans x3
      have s4 : ∀ W, Below w.heap.size w W → W.cell? ⟨b, off + i * 6 + 4, none⟩ = some (.int .i64 sl) := fun W hW => (hW.cell (p := ⟨b, off + i * 6 + 4, none⟩) hbw).trans x4
      have s5 : ∀ W, Below w.heap.size w W → W.cell? ⟨b, off + i * 6 + 5, none⟩ = some (.string sx) := fun W hW => (hW.cell (p := ⟨b, off + i * 6 + 5, none⟩) hbw).trans x5
      clear x0 x1 x2 x3 x4 x5
      have hs' := Lib.hid (And.intro s0 (And.intro s1 (And.intro s2 (And.intro s3 (And.intro s4 s5)))))
      clear s0 s1 s2 s3 s4 s5
      obtain ⟨ao, co, rfl, hlc, hcm, hse⟩ := seesC_own hown.out
      have hRO : Hid (RO alC g0 ao i co O) := Lib.hid ⟨hol.symm, hlc, hcm, hse⟩
      have hse' := Lib.hid hse
      have hoi : (i : Int) ≤ 100000 := by omega
      have hol' := Lib.hid hol
      clear hse hol
      go_wp2
      go_loopw [5] (fun x wk => ∃ k : Nat, k ≤ i ∧ x = .int .i64 k ∧ Hid (∀ j, k ≤ j → j < O.length → 0 < cmpA (O.getD j al0) ⟨sk, ssv, sf, sfi, sl, sx⟩) ∧ Hid (Below g0.heap.size g0 wk)) (fun x _ => (intOf x).toNat)
      case atStart => exact ⟨i, Nat.le_refl _, rfl, Lib.hid (fun j h1 h2 => by have := hol'.out; omega), Lib.hid (Below.refl _ _)⟩
      case round =>
        obtain ⟨k, hk, rfl, hal, hBk⟩ := hrel
        generalize wr = g1 at *
        by_cases hk0 : k = 0
        · have hO3 := Lib.hid (hst.out k (by have := hol'.out; omega) hal.out (.inl hk0))
          have hkz : ¬ (0 : Int) < (k : Int) := by omega
          have hkzb : decide ((0 : Int) < (k : Int)) = false := decide_eq_false hkz
          have hkzn : ¬ 0 < k := by omega
          have hkznb : decide (0 < k) = false := decide_eq_false hkzn
          have hk0' := Lib.hid hk0
          clear hk0
          clear hst hal q1
          go_wp2
          refine wp_drawn_on (fun W => W = g1.drew) (by kernel_rfl) (rfl) (fun hHeld => ?_)
          refine wT 0 (v := ?v1) rfl (by kernel_rfl) (fun _ _ _ h => h) ?h1 (by assumption) ?r1
          case h1 => (intro w hSw; (try dsimp only at hSw); go_simp; try with_reducible rfl)
          refine wT 1 (v := ?v2) rfl (by kernel_rfl) (fun _ _ _ h => h) ?h2 (by assumption) ?r2
          case h2 => (intro w hSw; (try dsimp only at hSw); go_simp; try with_reducible rfl)
          refine wT 2 (v := ?v3) rfl (by kernel_rfl) (fun _ _ _ h => h) ?h3 (by assumption) ?r3
          case h3 => (intro w hSw; (try dsimp only at hSw); go_simp; try with_reducible rfl)
          refine wS 3 rfl (by kernel_rfl) (fun _ _ _ h => h) (by assumption) ?_
          refine wS 4 rfl (by kernel_rfl) (fun _ _ _ h => h) (by assumption) ?_
          refine wS 5 rfl (by kernel_rfl) (fun _ _ _ h => h) (by assumption) ?_
          refine wS 6 rfl (by kernel_rfl) (fun _ _ _ h => h) (by assumption) ?_
          refine wS 7 rfl (by kernel_rfl) (fun _ _ _ h => h) (by assumption) ?_
          refine wS 8 rfl (by kernel_rfl) (fun _ _ _ h => h) (by assumption) ?_
          refine wS 9 rfl (by kernel_rfl) (fun _ _ _ h => h) (by assumption) ?_
          refine wS 10 rfl (by kernel_rfl) (fun _ _ _ h => h) (by assumption) ?_
          refine wS 11 rfl (by kernel_rfl) (fun _ _ _ h => h) (by assumption) ?_
          refine wS 12 rfl (by kernel_rfl) (fun _ _ _ h => h) (by assumption) ?_
          refine wS 13 rfl (by kernel_rfl) (fun _ _ _ h => h) (by assumption) ?_
          refine wT 14 (v := ?v15) rfl (by kernel_rfl) (fun _ _ _ h => h) ?h15 (by assumption) ?r15
          case h15 => (intro w hSw; (try dsimp only at hSw); go_simp; try with_reducible rfl)
          try simp only [Act.put, List.setIfInBounds_toArray, List.set_cons_zero, List.set_cons_succ]
          refine wpAnyH_done (by kernel_rfl) ?_ _
          have hBk2 : Below g0.heap.size g0 g1.drew := hBk.out.drew
          clear hHeld
          generalize g1.drew = V at *
          have hVz : V.heap.size = V.heap.size := rfl
          have hol := hol'.out
          obtain ⟨ad, hsl1, hsd, hnd⟩ := hse'.out.cut 6 k i co (by rw [alcells_len, hol]; omega) (by omega) hlc (by omega)
          obtain ⟨ae, hsl2, hsf, hnf⟩ := hse'.out.cut 6 0 k k (by rw [alcells_len, hol]; omega) (by omega) (Nat.le_refl _) (by omega)
          have g1' := ccut_l under_al size_al _ i co k hsl1 (by omega)
          have g2' := ccut_hm under_al size_al _ i co k k hsl2 (Nat.le_refl _) (by omega)
          have nl : (alcells O).length = i * 6 := by rw [alcells_len, hol]
          simp only [List.take_of_length_le (Nat.le_of_eq nl), alcells_drop O k (by omega), alcells_take O k (by omega), List.drop_zero, Nat.sub_zero, Nat.zero_mul] at hsd hsf g1' g2'
          have hne : ae = none → k = 0 ∧ k = 0 := by
            intro h
            by_cases h0 : k = 0
            · exact ⟨h0, h0⟩
            · rcases hsf with h1 | ⟨g, off, h1, _⟩
              · have h3 : (alcells (O.take k)).length = 0 := by rw [h1]; rfl
                rw [alcells_len, List.length_take] at h3; omega
              · rw [h] at h1; cases h1
          have hne' := Lib.hid hne
          have hk5 : k ≤ 100000 := by omega
          have hko5 : i - k ≤ 100000 := by omega
          have hBV : Below w.heap.size w V := hB.out.trans (hBk2.mono hB.out.size)
          have hsfV : SeesC V.heap.size V ae (alcells (O.take k)) := (hsf.below hBk2).mono hBk2.size
          obtain ⟨W2, hW2⟩ : ∃ W2, W2 = V.alloc (.cells #[] 23) := ⟨_, rfl⟩
          have hBx : Below V.heap.size V W2 := by rw [hW2]; exact (Below.refl _ _).alloc (Nat.le_refl _) _
          have hBx' := Lib.hid hBx
          have hsd2 : Hid (SeesC W2.heap.size W2 ad (alcells (O.drop k))) := Lib.hid (by
            have : SeesC V.heap.size V ad (alcells (O.drop k)) := (hsd.below hBk2).mono hBk2.size
            exact (this.below hBx).mono hBx.size)
          have hro : Hid (W2.ownsRow V.heap.size 23 6 (.slice (some ⟨V.heap.size, 0, none⟩) 0 0) 0 []) := Lib.hid (by rw [hW2, ← hVz]; exact own_cells V 23 6 0 #[] (by simp) (by simp [maxLen]))
          have hdl : Hid ((alcells (O.drop k)).length = (i - k) * 6) := Lib.hid (by rw [alcells_len, List.length_drop, hol])
          have htl : Hid ((alcells (O.take k)).length = k * 6) := Lib.hid (by rw [alcells_len, List.length_take, hol]; congr 1; omega)
          have hW2' := Lib.hid hW2
          have hBV' := Lib.hid hBV
          have hsfV' := Lib.hid hsfV
          have hone : Hid (∀ q : List AlD, ∀ u ∈ alcells q, u.oneCell' = true) := Lib.hid (fun q u hu => alcells_one hu)
          clear hsl1 hsl2 hsd hsf hnd hnf hse' hown hBx hW2 hBV hsfV hne hVz hol nl hBk2 hRO
          go_wp2_with (at_builtin; go_loud (rw [← hW2'.out]; refine wpList_append_cellsB _ rfl (.tmp 32) (.tmp 35) 24 rfl V 23 i0 z0 6 72 Tryz.underlying24 hi hz0 hz1 hz2 hz6 (by decide) _ 0 [] hro.out hBx'.out W2.heap.size ad (i - k) (co - k) (alcells (O.drop k)) hdl.out hsd2.out (hone.out _) rfl rfl (by simp [maxLen]; omega) (by omega) ?_); intro v3 w3 own3 b3; simp only [List.nil_append, Nat.zero_add] at own3)
          obtain ⟨a3, c3, rfl, -, -, s3⟩ := seesC_own own3
          have hsz : SeesC w3.drew.heap.size w3.drew a3 (alcells (O.drop k)) := s3
          have hall : Below V.heap.size V w3.drew := b3.drew
          have h0 : ∀ W, Below V.heap.size V W → W.cell? ⟨b, off + i * 6, none⟩ = some (.int .i64 sk) := fun W hW => hs'.out.1 W (hBV'.out.trans (hW.mono hBV'.out.size))
          have h1 : ∀ W, Below V.heap.size V W → W.cell? ⟨b, off + i * 6 + 1, none⟩ = some (.int .i64 ssv) := fun W hW => hs'.out.2.1 W (hBV'.out.trans (hW.mono hBV'.out.size))
          have h2 : ∀ W, Below V.heap.size V W → W.cell? ⟨b, off + i * 6 + 2, none⟩ = some (.string sf) := fun W hW => hs'.out.2.2.1 W (hBV'.out.trans (hW.mono hBV'.out.size))
          have h3 : ∀ W, Below V.heap.size V W → W.cell? ⟨b, off + i * 6 + 3, none⟩ = some (.string sfi) := fun W hW => hs'.out.2.2.2.1 W (hBV'.out.trans (hW.mono hBV'.out.size))
          have h4 : ∀ W, Below V.heap.size V W → W.cell? ⟨b, off + i * 6 + 4, none⟩ = some (.int .i64 sl) := fun W hW => hs'.out.2.2.2.2.1 W (hBV'.out.trans (hW.mono hBV'.out.size))
          have h5 : ∀ W, Below V.heap.size V W → W.cell? ⟨b, off + i * 6 + 5, none⟩ = some (.string sx) := fun W hW => hs'.out.2.2.2.2.2 W (hBV'.out.trans (hW.mono hBV'.out.size))
          clear own3 s3 hro hsd2
          refine wp_drawn_on (fun W => Below V.heap.size V W) (by kernel_rfl) (b3.drew) (fun hHeld => ?_)
          generalize w3.drew = W4 at hsz hall hHeld ⊢
          refine wT 0 (v := ?v16) rfl (by kernel_rfl) (fun _ _ _ h => h) ?h16 (by assumption) ?r16
          case h16 => (intro w hSw; (try dsimp only at hSw); go_simp; try with_reducible rfl)
          refine wT 1 (v := ?v17) rfl (by kernel_rfl) (fun _ _ _ h => h) ?h17 (by assumption) ?r17
          case h17 => (intro w hSw; (try dsimp only at hSw); go_simp; try with_reducible rfl)
          refine wT 2 (v := ?v18) rfl (by kernel_rfl) (fun _ _ _ h => h) ?h18 (by assumption) ?r18
          case h18 => (intro w hSw; (try dsimp only at hSw); go_simp; try with_reducible rfl)
          refine wT 3 (v := ?v19) rfl (by kernel_rfl) (fun _ _ _ h => h) ?h19 (by assumption) ?r19
          case h19 => (intro w hSw; (try dsimp only at hSw); go_simp; try with_reducible rfl)
          refine wT 4 (v := ?v20) rfl (by kernel_rfl) (fun _ _ _ h => h) ?h20 (by assumption) ?r20
          case h20 => (intro w hSw; (try dsimp only at hSw); go_simp; try with_reducible rfl)
          refine wT 5 (v := ?v21) rfl (by kernel_rfl) (fun _ _ _ h => h) ?h21 (by assumption) ?r21
          case h21 => (intro w hSw; (try dsimp only at hSw); go_simp; try with_reducible rfl)
          refine wT 6 (v := ?v22) rfl (by kernel_rfl) (fun _ _ _ h => h) ?h22 (by assumption) ?r22
          case h22 => (intro w hSw; (try dsimp only at hSw); go_simp; try with_reducible rfl)
          refine wT 7 (v := ?v23) rfl (by kernel_rfl) (fun _ _ _ h => h) ?h23 (by assumption) ?r23
          case h23 => (intro w hSw; (try dsimp only at hSw); go_simp; try with_reducible rfl)
          refine wT 10 (v := ?v24) rfl (by kernel_rfl) (fun _ _ _ h => h) ?h24 (by assumption) ?r24
          case h24 => (intro w hSw; (try dsimp only at hSw); go_simp; try with_reducible rfl)
          try simp only [Act.put, List.setIfInBounds_toArray, List.set_cons_zero, List.set_cons_succ]
          refine wpAnyH_ready (rs := [8]) (by kernel_rfl) (by simp) ?_
          refine AllReadyH.cons (o := ⟨_, _, _, _, _, _⟩) rfl (fun K hK => ?_) AllReadyH.nil
          go_simp
          have hx8 := hHeld.alloc hHeld.size (.cells #[.int .i64 sk, .int .i64 ssv, .string sf, .string sfi, .int .i64 sl, .string sx] 23)
          have s8 := seesC_lit (W4) 23 #[.int .i64 sk, .int .i64 ssv, .string sf, .string sfi, .int .i64 sl, .string sx]
          have s38 := (hsz.below (box_below (W4) #[.int .i64 sk, .int .i64 ssv, .string sf, .string sfi, .int .i64 sl, .string sx] 23)).mono (box_below (W4) #[.int .i64 sk, .int .i64 ssv, .string sf, .string sfi, .int .i64 sl, .string sx] 23).size
          go_simp
          generalize hw8 : (W4).alloc (.cells #[.int .i64 sk, .int .i64 ssv, .string sf, .string sfi, .int .i64 sl, .string sx] 23) = w8 at *
          generalize (W4).heap.size = g8 at *
          refine hK.out _ _ (hx8) (fun hHeld => ?_)
          clear hK K
          try simp only [Act.put, List.setIfInBounds_toArray, List.set_cons_zero, List.set_cons_succ]
          refine wpAnyH_ready (rs := [9]) (by kernel_rfl) (by simp) ?_
          refine AllReadyH.cons (o := ⟨_, _, _, _, _, _⟩) rfl (fun K hK => ?_) AllReadyH.nil
          refine wp_append_full _ (.tmp 40) (.tmp 45) 24 rfl 23 i0 z0 6 72 Tryz.underlying24 hi hz0 hz1 hz2 hz6 (by decide) ae k k (alcells (O.take k)) rfl hne'.out htl.out w8.heap.size ((hsfV'.out.below hHeld).mono hHeld.size) ⟨g8, 0, none⟩ 1 1 [.int .i64 sk, .int .i64 ssv, .string sf, .string sfi, .int .i64 sl, .string sx] rfl (by simp) s8 (by intro u hu; simp at hu; rcases hu with rfl | rfl | rfl | rfl | rfl | rfl <;> rfl) (by omega) (by simp [maxLen]; omega) (by omega) ?_
          intro v9 w9 own9 grow9
          have bg9 : Below w8.heap.size w8 w9 := (Below.refl _ _).grown grow9 (Nat.le_refl _) (by intro k hk; cases hk)
          have hx9 := hHeld.trans (bg9.mono hHeld.size)
          have s39 := (s38.below bg9).mono bg9.size
          have own9' := own_from own9 (B := w.heap.size) (fun k hk => by have q1 := (own9.lt k hk).1; have q2 := hHeld.size; have q3 := hBV'.out.size; omega)
          refine hK.out _ _ (hx9) (fun hHeld => ?_)
          clear hK K
          try simp only [Act.put, List.setIfInBounds_toArray, List.set_cons_zero, List.set_cons_succ]
          refine wpAnyH_ready (rs := [11]) (by kernel_rfl) (by simp) ?_
          refine AllReadyH.cons (o := ⟨_, _, _, _, _, _⟩) rfl (fun K hK => ?_) AllReadyH.nil
          refine wp_append_cellsB _ (.tmp 46) (.tmp 47) 24 rfl w.heap.size 23 i0 z0 6 72 Tryz.underlying24 hi hz0 hz1 hz2 hz6 (by decide) v9 (k + 1) _ own9' (by have q2 := hHeld.size; have q3 := hBV'.out.size; omega) _ a3 (i - k) c3 (alcells (O.drop k)) hdl.out s39 (hone.out _) rfl rfl (by simp [maxLen]; omega) (by omega) ?_
          intro v11 w11 own11 grow11
          have hx11 : Below V.heap.size V w11 := hHeld.grown grow11 hHeld.size (fun k hk => by have q1 := (own9.lt k hk).1; have q2 := hx8.size; omega)
          refine hK.out _ _ (hx11) (fun hHeld => ?_)
          clear hK K
          refine wT 12 (v := ?v25) rfl (by kernel_rfl) (fun _ _ _ h => h) ?h25 (by assumption) ?r25
          case h25 => (intro w hSw; (try dsimp only at hSw); go_simp; try with_reducible rfl)
          try simp only [Act.put, List.setIfInBounds_toArray, List.set_cons_zero, List.set_cons_succ]
          refine wpAnyH_done (by kernel_rfl) ?_ _
          have hfin : Hid (w11.ownsRow w.heap.size 23 6 v11 (i + 1) (alcells O2) ∧ Below w.heap.size w w11) := Lib.hid ⟨by rw [hO3.out, hfin5.out k, show i + 1 = k + 1 + (i - k) by omega]; exact own11, hBV'.out.trans (hx11.mono hBV'.out.size)⟩
          clear own11 grow11 hx11 own9' own9 grow9 bg9 s39 s38 s8 hx8 hx9 hHeld h0 h1 h2 h3 h4 h5
          go_wp2
          go_roundw
          case rel => exact ⟨i + 1, by omega, by go_num, Lib.hid (by rw [hOe.out]; exact hfin.out.1), Lib.hid hfin.out.2⟩
          case measure => simp [intOf]; omega
        · obtain ⟨j, hkj⟩ : ∃ j, k = j + 1 := ⟨k - 1, by omega⟩
          obtain ⟨g, off2, rfl, hgl, y0, y1, y2, y3, y4, y5⟩ := al_at (hRO.out.below hBk.out) (show j < i by omega)
          have q2 := Lib.hid (fun W => q1.out (O.getD j al0) W)
          have r0 : ∀ W, Below g1.heap.size g1 W → W.cell? ⟨g, off2 + j * 6, none⟩ = some (.int .i64 (O.getD j al0).kind) := fun W hW => (hW.cell (p := ⟨g, off2 + j * 6, none⟩) hgl).trans y0
          have s0 : ∀ W, Below g1.heap.size g1 W → W.cell? ⟨b, off + i * 6, none⟩ = some (.int .i64 sk) := fun W hW => hs'.out.1 W (hB.out.trans ((hBk.out.trans (hW.mono hBk.out.size)).mono hB.out.size))
          have r1 : ∀ W, Below g1.heap.size g1 W → W.cell? ⟨g, off2 + j * 6 + 1, none⟩ = some (.int .i64 (O.getD j al0).sev) := fun W hW => (hW.cell (p := ⟨g, off2 + j * 6 + 1, none⟩) hgl).trans y1
          have s1 : ∀ W, Below g1.heap.size g1 W → W.cell? ⟨b, off + i * 6 + 1, none⟩ = some (.int .i64 ssv) := fun W hW => hs'.out.2.1 W (hB.out.trans ((hBk.out.trans (hW.mono hBk.out.size)).mono hB.out.size))
          have r2 : ∀ W, Below g1.heap.size g1 W → W.cell? ⟨g, off2 + j * 6 + 2, none⟩ = some (.string (O.getD j al0).fn) := fun W hW => (hW.cell (p := ⟨g, off2 + j * 6 + 2, none⟩) hgl).trans y2
          have s2 : ∀ W, Below g1.heap.size g1 W → W.cell? ⟨b, off + i * 6 + 2, none⟩ = some (.string sf) := fun W hW => hs'.out.2.2.1 W (hB.out.trans ((hBk.out.trans (hW.mono hBk.out.size)).mono hB.out.size))
          have r3 : ∀ W, Below g1.heap.size g1 W → W.cell? ⟨g, off2 + j * 6 + 3, none⟩ = some (.string (O.getD j al0).file) := fun W hW => (hW.cell (p := ⟨g, off2 + j * 6 + 3, none⟩) hgl).trans y3
          have s3 : ∀ W, Below g1.heap.size g1 W → W.cell? ⟨b, off + i * 6 + 3, none⟩ = some (.string sfi) := fun W hW => hs'.out.2.2.2.1 W (hB.out.trans ((hBk.out.trans (hW.mono hBk.out.size)).mono hB.out.size))
          have r4 : ∀ W, Below g1.heap.size g1 W → W.cell? ⟨g, off2 + j * 6 + 4, none⟩ = some (.int .i64 (O.getD j al0).line) := fun W hW => (hW.cell (p := ⟨g, off2 + j * 6 + 4, none⟩) hgl).trans y4
          have s4 : ∀ W, Below g1.heap.size g1 W → W.cell? ⟨b, off + i * 6 + 4, none⟩ = some (.int .i64 sl) := fun W hW => hs'.out.2.2.2.2.1 W (hB.out.trans ((hBk.out.trans (hW.mono hBk.out.size)).mono hB.out.size))
          have r5 : ∀ W, Below g1.heap.size g1 W → W.cell? ⟨g, off2 + j * 6 + 5, none⟩ = some (.string (O.getD j al0).expr) := fun W hW => (hW.cell (p := ⟨g, off2 + j * 6 + 5, none⟩) hgl).trans y5
          have s5 : ∀ W, Below g1.heap.size g1 W → W.cell? ⟨b, off + i * 6 + 5, none⟩ = some (.string sx) := fun W hW => hs'.out.2.2.2.2.2 W (hB.out.trans ((hBk.out.trans (hW.mono hBk.out.size)).mono hB.out.size))
          have hji : (j : Int) < (i : Int) := by omega
          have hj0 : (0 : Int) ≤ (j : Int) := by omega
          have hjw : wrap64 ((k : Int) - 1) = (j : Int) := by unfold wrap64; omega
          have hjw2 : IntKind.i64.wrap ((k : Int) - 1) = (j : Int) := by rw [IntKind.wrap_i64]; omega
          have hjp : (0 : Int) < (k : Int) := by omega
          have hjpn : 0 < k := by omega
          have hkj' := Lib.hid hkj
          have hal2 : Hid (0 < cmpA (O.getD j al0) ⟨sk, ssv, sf, sfi, sl, sx⟩ → ∀ t, j ≤ t → t < O.length → 0 < cmpA (O.getD t al0) ⟨sk, ssv, sf, sfi, sl, sx⟩) := Lib.hid (fun h t h1 h2 => by
            by_cases e : t = j
            · rw [e]; exact h
            · exact hal.out t (by omega) h2)
          have hn2 : Hid (¬ 0 < cmpA (O.getD j al0) ⟨sk, ssv, sf, sfi, sl, sx⟩ → O2 = O.take k ++ ⟨sk, ssv, sf, sfi, sl, sx⟩ :: O.drop k) := Lib.hid (fun h => hst.out k (by have := hol'.out; omega) hal.out (.inr (by rw [show k - 1 = j by omega]; first | exact h | omega)))
          clear y0 y1 y2 y3 y4 y5 hal hkj
          generalize cmpA (O.getD j al0) ⟨sk, ssv, sf, sfi, sl, sx⟩ = cv at *
          generalize O.getD j al0 = y at *
          obtain ⟨yk, yv, yf, yfi, yl, yx⟩ := y
          dsimp only at r0 r1 r2 r3 r4 r5 q2
          by_cases hys : 0 < cv
          · have hS := Lib.hid (hal2.out hys)
            clear hn2 hal2
            go_wp2
            refine wp_drawn_on (fun W => Below g1.heap.size g1 W) (by kernel_rfl) ((Below.refl _ _).drew) (fun hHeld => ?_)
            refine wT 0 (v := ?v26) rfl (by kernel_rfl) (fun _ _ _ h => h) ?h26 (by assumption) ?r26
            case h26 => (intro w hSw; (try dsimp only at hSw); go_simp; try with_reducible rfl)
            refine wT 1 (v := ?v27) rfl (by kernel_rfl) (fun _ _ _ h => h) ?h27 (by assumption) ?r27
            case h27 => (intro w hSw; (try dsimp only at hSw); go_simp; try with_reducible rfl)
            refine wT 2 (v := ?v28) rfl (by kernel_rfl) (fun _ _ _ h => h) ?h28 (by assumption) ?r28
            case h28 => (intro w hSw; (try dsimp only at hSw); go_simp; try with_reducible rfl)
            refine wT 3 (v := ?v29) rfl (by kernel_rfl) (fun _ _ _ h => h) ?h29 (by assumption) ?r29
            case h29 => (intro w hSw; (try dsimp only at hSw); go_simp; try with_reducible rfl)
            refine wT 4 (v := ?v30) rfl (by kernel_rfl) (fun _ _ _ h => h) ?h30 (by assumption) ?r30
            case h30 => (intro w hSw; (try dsimp only at hSw); go_simp; try with_reducible rfl)
            refine wT 5 (v := ?v31) rfl (by kernel_rfl) (fun _ _ _ h => h) ?h31 (by assumption) ?r31
            case h31 => (intro w hSw; (try dsimp only at hSw); go_simp; try with_reducible rfl)
            refine wT 6 (v := ?v32) rfl (by kernel_rfl) (fun _ _ _ h => h) ?h32 (by assumption) ?r32
            case h32 => (intro w hSw; (try dsimp only at hSw); go_simp; try with_reducible rfl)
            refine wT 7 (v := ?v33) rfl (by kernel_rfl) (fun _ _ _ h => h) ?h33 (by assumption) ?r33
            case h33 => (intro w hSw; (try dsimp only at hSw); go_simp; try with_reducible rfl)
            refine wT 8 (v := ?v34) rfl (by kernel_rfl) (fun _ _ _ h => h) ?h34 (by assumption) ?r34
            case h34 => (intro w hSw; (try dsimp only at hSw); go_simp; try with_reducible rfl)
            refine wT 9 (v := ?v35) rfl (by kernel_rfl) (fun _ _ _ h => h) ?h35 (by assumption) ?r35
            case h35 => (intro w hSw; (try dsimp only at hSw); go_simp; try with_reducible rfl)
            refine wT 10 (v := ?v36) rfl (by kernel_rfl) (fun _ _ _ h => h) ?h36 (by assumption) ?r36
            case h36 => (intro w hSw; (try dsimp only at hSw); go_simp; try with_reducible rfl)
            refine wT 11 (v := ?v37) rfl (by kernel_rfl) (fun _ _ _ h => h) ?h37 (by assumption) ?r37
            case h37 => (intro w hSw; (try dsimp only at hSw); go_simp; try with_reducible rfl)
            try simp only [Act.put, List.setIfInBounds_toArray, List.set_cons_zero, List.set_cons_succ]
            refine wpAnyH_ready (rs := [12]) (by kernel_rfl) (by simp) ?_
            refine AllReadyH.cons (o := ⟨_, _, _, _, _, _⟩) rfl (fun K hK => ?_) AllReadyH.nil
            go_simp
            with_reducible refine (q2.out _).mono ?_
            rintro e u1 ⟨rfl, b1⟩
            go_simp
            refine hK.out _ _ (hHeld.trans (b1.mono hHeld.size)) (fun hHeld => ?_)
            clear hK K
            refine wT 13 (v := ?v38) rfl (by kernel_rfl) (fun _ _ _ h => h) ?h38 (by assumption) ?r38
            case h38 => (intro w hSw; (try dsimp only at hSw); go_simp; try with_reducible rfl)
            refine wT 14 (v := ?v39) rfl (by kernel_rfl) (fun _ _ _ h => h) ?h39 (by assumption) ?r39
            case h39 => (intro w hSw; (try dsimp only at hSw); go_simp; try with_reducible rfl)
            try simp only [Act.put, List.setIfInBounds_toArray, List.set_cons_zero, List.set_cons_succ]
            refine wpAnyH_done (by kernel_rfl) ?_ _
            have hB2 := Lib.hid (hBk.out.trans (hHeld.mono hBk.out.size))
            clear hHeld b1 r0 r1 r2 r3 r4 r5 s0 s1 s2 s3 s4 s5 q2
            go_wp2
            go_roundw
            case rel => exact ⟨j, by have := hkj'.out; omega, by first | rfl | go_num, hS, hB2⟩
            case measure => (simp [intOf]; have := hkj'.out; omega)
          · have hysb : decide (0 < cv) = false := decide_eq_false hys
            have hO3 := Lib.hid (hn2.out hys)
            clear hn2 hal2 hst
            go_wp2
            refine wp_drawn_on (fun W => Below g1.heap.size g1 W) (by kernel_rfl) ((Below.refl _ _).drew) (fun hHeld => ?_)
            refine wT 0 (v := ?v40) rfl (by kernel_rfl) (fun _ _ _ h => h) ?h40 (by assumption) ?r40
            case h40 => (intro w hSw; (try dsimp only at hSw); go_simp; try with_reducible rfl)
            refine wT 1 (v := ?v41) rfl (by kernel_rfl) (fun _ _ _ h => h) ?h41 (by assumption) ?r41
            case h41 => (intro w hSw; (try dsimp only at hSw); go_simp; try with_reducible rfl)
            refine wT 2 (v := ?v42) rfl (by kernel_rfl) (fun _ _ _ h => h) ?h42 (by assumption) ?r42
            case h42 => (intro w hSw; (try dsimp only at hSw); go_simp; try with_reducible rfl)
            refine wT 3 (v := ?v43) rfl (by kernel_rfl) (fun _ _ _ h => h) ?h43 (by assumption) ?r43
            case h43 => (intro w hSw; (try dsimp only at hSw); go_simp; try with_reducible rfl)
            refine wT 4 (v := ?v44) rfl (by kernel_rfl) (fun _ _ _ h => h) ?h44 (by assumption) ?r44
            case h44 => (intro w hSw; (try dsimp only at hSw); go_simp; try with_reducible rfl)
            refine wT 5 (v := ?v45) rfl (by kernel_rfl) (fun _ _ _ h => h) ?h45 (by assumption) ?r45
            case h45 => (intro w hSw; (try dsimp only at hSw); go_simp; try with_reducible rfl)
            refine wT 6 (v := ?v46) rfl (by kernel_rfl) (fun _ _ _ h => h) ?h46 (by assumption) ?r46
            case h46 => (intro w hSw; (try dsimp only at hSw); go_simp; try with_reducible rfl)
            refine wT 7 (v := ?v47) rfl (by kernel_rfl) (fun _ _ _ h => h) ?h47 (by assumption) ?r47
            case h47 => (intro w hSw; (try dsimp only at hSw); go_simp; try with_reducible rfl)
            refine wT 8 (v := ?v48) rfl (by kernel_rfl) (fun _ _ _ h => h) ?h48 (by assumption) ?r48
            case h48 => (intro w hSw; (try dsimp only at hSw); go_simp; try with_reducible rfl)
            refine wT 9 (v := ?v49) rfl (by kernel_rfl) (fun _ _ _ h => h) ?h49 (by assumption) ?r49
            case h49 => (intro w hSw; (try dsimp only at hSw); go_simp; try with_reducible rfl)
            refine wT 10 (v := ?v50) rfl (by kernel_rfl) (fun _ _ _ h => h) ?h50 (by assumption) ?r50
            case h50 => (intro w hSw; (try dsimp only at hSw); go_simp; try with_reducible rfl)
            refine wT 11 (v := ?v51) rfl (by kernel_rfl) (fun _ _ _ h => h) ?h51 (by assumption) ?r51
            case h51 => (intro w hSw; (try dsimp only at hSw); go_simp; try with_reducible rfl)
            try simp only [Act.put, List.setIfInBounds_toArray, List.set_cons_zero, List.set_cons_succ]
            refine wpAnyH_ready (rs := [12]) (by kernel_rfl) (by simp) ?_
            refine AllReadyH.cons (o := ⟨_, _, _, _, _, _⟩) rfl (fun K hK => ?_) AllReadyH.nil
            go_simp
            with_reducible refine (q2.out _).mono ?_
            rintro e u1 ⟨rfl, b1⟩
            go_simp
            refine hK.out _ _ (hHeld.trans (b1.mono hHeld.size)) (fun hHeld => ?_)
            clear hK K
            refine wT 13 (v := ?v52) rfl (by kernel_rfl) (fun _ _ _ h => h) ?h52 (by assumption) ?r52
            case h52 => (intro w hSw; (try dsimp only at hSw); go_simp; try with_reducible rfl)
            refine wT 14 (v := ?v53) rfl (by kernel_rfl) (fun _ _ _ h => h) ?h53 (by assumption) ?r53
            case h53 => (intro w hSw; (try dsimp only at hSw); go_simp; try with_reducible rfl)
            try simp only [Act.put, List.setIfInBounds_toArray, List.set_cons_zero, List.set_cons_succ]
            refine wpAnyH_done (by kernel_rfl) ?_ _
            have hBk2 := hBk.out.trans (hHeld.mono hBk.out.size)
            clear hHeld b1 r0 r1 r2 r3 r4 r5 s0 s1 s2 s3 s4 s5 q2 q1
            clear hysb hys hjp hjpn hjw hjw2 hj0 hji hkj'
            generalize u1 = V at *
            have hVz : V.heap.size = V.heap.size := rfl
            have hol := hol'.out
            obtain ⟨ad, hsl1, hsd, hnd⟩ := hse'.out.cut 6 k i co (by rw [alcells_len, hol]; omega) (by omega) hlc (by omega)
            obtain ⟨ae, hsl2, hsf, hnf⟩ := hse'.out.cut 6 0 k k (by rw [alcells_len, hol]; omega) (by omega) (Nat.le_refl _) (by omega)
            have g1' := ccut_l under_al size_al _ i co k hsl1 (by omega)
            have g2' := ccut_hm under_al size_al _ i co k k hsl2 (Nat.le_refl _) (by omega)
            have nl : (alcells O).length = i * 6 := by rw [alcells_len, hol]
            simp only [List.take_of_length_le (Nat.le_of_eq nl), alcells_drop O k (by omega), alcells_take O k (by omega), List.drop_zero, Nat.sub_zero, Nat.zero_mul] at hsd hsf g1' g2'
            have hne : ae = none → k = 0 ∧ k = 0 := by
              intro h
              by_cases h0 : k = 0
              · exact ⟨h0, h0⟩
              · rcases hsf with h1 | ⟨g, off, h1, _⟩
                · have h3 : (alcells (O.take k)).length = 0 := by rw [h1]; rfl
                  rw [alcells_len, List.length_take] at h3; omega
                · rw [h] at h1; cases h1
            have hne' := Lib.hid hne
            have hk5 : k ≤ 100000 := by omega
            have hko5 : i - k ≤ 100000 := by omega
            have hBV : Below w.heap.size w V := hB.out.trans (hBk2.mono hB.out.size)
            have hsfV : SeesC V.heap.size V ae (alcells (O.take k)) := (hsf.below hBk2).mono hBk2.size
            obtain ⟨W2, hW2⟩ : ∃ W2, W2 = V.alloc (.cells #[] 23) := ⟨_, rfl⟩
            have hBx : Below V.heap.size V W2 := by rw [hW2]; exact (Below.refl _ _).alloc (Nat.le_refl _) _
            have hBx' := Lib.hid hBx
            have hsd2 : Hid (SeesC W2.heap.size W2 ad (alcells (O.drop k))) := Lib.hid (by
              have : SeesC V.heap.size V ad (alcells (O.drop k)) := (hsd.below hBk2).mono hBk2.size
              exact (this.below hBx).mono hBx.size)
            have hro : Hid (W2.ownsRow V.heap.size 23 6 (.slice (some ⟨V.heap.size, 0, none⟩) 0 0) 0 []) := Lib.hid (by rw [hW2, ← hVz]; exact own_cells V 23 6 0 #[] (by simp) (by simp [maxLen]))
            have hdl : Hid ((alcells (O.drop k)).length = (i - k) * 6) := Lib.hid (by rw [alcells_len, List.length_drop, hol])
            have htl : Hid ((alcells (O.take k)).length = k * 6) := Lib.hid (by rw [alcells_len, List.length_take, hol]; congr 1; omega)
            have hW2' := Lib.hid hW2
            have hBV' := Lib.hid hBV
            have hsfV' := Lib.hid hsfV
            have hone : Hid (∀ q : List AlD, ∀ u ∈ alcells q, u.oneCell' = true) := Lib.hid (fun q u hu => alcells_one hu)
            clear hsl1 hsl2 hsd hsf hnd hnf hse' hown hBx hW2 hBV hsfV hne hVz hol nl hBk2 hRO
            go_wp2_with (at_builtin; go_loud (rw [← hW2'.out]; refine wpList_append_cellsB _ rfl (.tmp 32) (.tmp 35) 24 rfl V 23 i0 z0 6 72 Tryz.underlying24 hi hz0 hz1 hz2 hz6 (by decide) _ 0 [] hro.out hBx'.out W2.heap.size ad (i - k) (co - k) (alcells (O.drop k)) hdl.out hsd2.out (hone.out _) rfl rfl (by simp [maxLen]; omega) (by omega) ?_); intro v3 w3 own3 b3; simp only [List.nil_append, Nat.zero_add] at own3)
            obtain ⟨a3, c3, rfl, -, -, s3⟩ := seesC_own own3
            have hsz : SeesC w3.drew.heap.size w3.drew a3 (alcells (O.drop k)) := s3
            have hall : Below V.heap.size V w3.drew := b3.drew
            have h0 : ∀ W, Below V.heap.size V W → W.cell? ⟨b, off + i * 6, none⟩ = some (.int .i64 sk) := fun W hW => hs'.out.1 W (hBV'.out.trans (hW.mono hBV'.out.size))
            have h1 : ∀ W, Below V.heap.size V W → W.cell? ⟨b, off + i * 6 + 1, none⟩ = some (.int .i64 ssv) := fun W hW => hs'.out.2.1 W (hBV'.out.trans (hW.mono hBV'.out.size))
            have h2 : ∀ W, Below V.heap.size V W → W.cell? ⟨b, off + i * 6 + 2, none⟩ = some (.string sf) := fun W hW => hs'.out.2.2.1 W (hBV'.out.trans (hW.mono hBV'.out.size))
            have h3 : ∀ W, Below V.heap.size V W → W.cell? ⟨b, off + i * 6 + 3, none⟩ = some (.string sfi) := fun W hW => hs'.out.2.2.2.1 W (hBV'.out.trans (hW.mono hBV'.out.size))
            have h4 : ∀ W, Below V.heap.size V W → W.cell? ⟨b, off + i * 6 + 4, none⟩ = some (.int .i64 sl) := fun W hW => hs'.out.2.2.2.2.1 W (hBV'.out.trans (hW.mono hBV'.out.size))
            have h5 : ∀ W, Below V.heap.size V W → W.cell? ⟨b, off + i * 6 + 5, none⟩ = some (.string sx) := fun W hW => hs'.out.2.2.2.2.2 W (hBV'.out.trans (hW.mono hBV'.out.size))
            clear own3 s3 hro hsd2
            refine wp_drawn_on (fun W => Below V.heap.size V W) (by kernel_rfl) (b3.drew) (fun hHeld => ?_)
            generalize w3.drew = W4 at hsz hall hHeld ⊢
            refine wT 0 (v := ?v54) rfl (by kernel_rfl) (fun _ _ _ h => h) ?h54 (by assumption) ?r54
            case h54 => (intro w hSw; (try dsimp only at hSw); go_simp; try with_reducible rfl)
            refine wT 1 (v := ?v55) rfl (by kernel_rfl) (fun _ _ _ h => h) ?h55 (by assumption) ?r55
            case h55 => (intro w hSw; (try dsimp only at hSw); go_simp; try with_reducible rfl)
            refine wT 2 (v := ?v56) rfl (by kernel_rfl) (fun _ _ _ h => h) ?h56 (by assumption) ?r56
            case h56 => (intro w hSw; (try dsimp only at hSw); go_simp; try with_reducible rfl)
            refine wT 3 (v := ?v57) rfl (by kernel_rfl) (fun _ _ _ h => h) ?h57 (by assumption) ?r57
            case h57 => (intro w hSw; (try dsimp only at hSw); go_simp; try with_reducible rfl)
            refine wT 4 (v := ?v58) rfl (by kernel_rfl) (fun _ _ _ h => h) ?h58 (by assumption) ?r58
            case h58 => (intro w hSw; (try dsimp only at hSw); go_simp; try with_reducible rfl)
            refine wT 5 (v := ?v59) rfl (by kernel_rfl) (fun _ _ _ h => h) ?h59 (by assumption) ?r59
            case h59 => (intro w hSw; (try dsimp only at hSw); go_simp; try with_reducible rfl)
            refine wT 6 (v := ?v60) rfl (by kernel_rfl) (fun _ _ _ h => h) ?h60 (by assumption) ?r60
            case h60 => (intro w hSw; (try dsimp only at hSw); go_simp; try with_reducible rfl)
            refine wT 7 (v := ?v61) rfl (by kernel_rfl) (fun _ _ _ h => h) ?h61 (by assumption) ?r61
            case h61 => (intro w hSw; (try dsimp only at hSw); go_simp; try with_reducible rfl)
            refine wT 10 (v := ?v62) rfl (by kernel_rfl) (fun _ _ _ h => h) ?h62 (by assumption) ?r62
            case h62 => (intro w hSw; (try dsimp only at hSw); go_simp; try with_reducible rfl)
            try simp only [Act.put, List.setIfInBounds_toArray, List.set_cons_zero, List.set_cons_succ]
            refine wpAnyH_ready (rs := [8]) (by kernel_rfl) (by simp) ?_
            refine AllReadyH.cons (o := ⟨_, _, _, _, _, _⟩) rfl (fun K hK => ?_) AllReadyH.nil
            go_simp
            have hx8 := hHeld.alloc hHeld.size (.cells #[.int .i64 sk, .int .i64 ssv, .string sf, .string sfi, .int .i64 sl, .string sx] 23)
            have s8 := seesC_lit (W4) 23 #[.int .i64 sk, .int .i64 ssv, .string sf, .string sfi, .int .i64 sl, .string sx]
            have s38 := (hsz.below (box_below (W4) #[.int .i64 sk, .int .i64 ssv, .string sf, .string sfi, .int .i64 sl, .string sx] 23)).mono (box_below (W4) #[.int .i64 sk, .int .i64 ssv, .string sf, .string sfi, .int .i64 sl, .string sx] 23).size
            go_simp
            generalize hw8 : (W4).alloc (.cells #[.int .i64 sk, .int .i64 ssv, .string sf, .string sfi, .int .i64 sl, .string sx] 23) = w8 at *
            generalize (W4).heap.size = g8 at *
            refine hK.out _ _ (hx8) (fun hHeld => ?_)
            clear hK K
            try simp only [Act.put, List.setIfInBounds_toArray, List.set_cons_zero, List.set_cons_succ]
            refine wpAnyH_ready (rs := [9]) (by kernel_rfl) (by simp) ?_
            refine AllReadyH.cons (o := ⟨_, _, _, _, _, _⟩) rfl (fun K hK => ?_) AllReadyH.nil
            refine wp_append_full _ (.tmp 40) (.tmp 45) 24 rfl 23 i0 z0 6 72 Tryz.underlying24 hi hz0 hz1 hz2 hz6 (by decide) ae k k (alcells (O.take k)) rfl hne'.out htl.out w8.heap.size ((hsfV'.out.below hHeld).mono hHeld.size) ⟨g8, 0, none⟩ 1 1 [.int .i64 sk, .int .i64 ssv, .string sf, .string sfi, .int .i64 sl, .string sx] rfl (by simp) s8 (by intro u hu; simp at hu; rcases hu with rfl | rfl | rfl | rfl | rfl | rfl <;> rfl) (by omega) (by simp [maxLen]; omega) (by omega) ?_
            intro v9 w9 own9 grow9
            have bg9 : Below w8.heap.size w8 w9 := (Below.refl _ _).grown grow9 (Nat.le_refl _) (by intro k hk; cases hk)
            have hx9 := hHeld.trans (bg9.mono hHeld.size)
            have s39 := (s38.below bg9).mono bg9.size
            have own9' := own_from own9 (B := w.heap.size) (fun k hk => by have q1 := (own9.lt k hk).1; have q2 := hHeld.size; have q3 := hBV'.out.size; omega)
            refine hK.out _ _ (hx9) (fun hHeld => ?_)
            clear hK K
            try simp only [Act.put, List.setIfInBounds_toArray, List.set_cons_zero, List.set_cons_succ]
            refine wpAnyH_ready (rs := [11]) (by kernel_rfl) (by simp) ?_
            refine AllReadyH.cons (o := ⟨_, _, _, _, _, _⟩) rfl (fun K hK => ?_) AllReadyH.nil
            refine wp_append_cellsB _ (.tmp 46) (.tmp 47) 24 rfl w.heap.size 23 i0 z0 6 72 Tryz.underlying24 hi hz0 hz1 hz2 hz6 (by decide) v9 (k + 1) _ own9' (by have q2 := hHeld.size; have q3 := hBV'.out.size; omega) _ a3 (i - k) c3 (alcells (O.drop k)) hdl.out s39 (hone.out _) rfl rfl (by simp [maxLen]; omega) (by omega) ?_
            intro v11 w11 own11 grow11
            have hx11 : Below V.heap.size V w11 := hHeld.grown grow11 hHeld.size (fun k hk => by have q1 := (own9.lt k hk).1; have q2 := hx8.size; omega)
            refine hK.out _ _ (hx11) (fun hHeld => ?_)
            clear hK K
            refine wT 12 (v := ?v63) rfl (by kernel_rfl) (fun _ _ _ h => h) ?h63 (by assumption) ?r63
            case h63 => (intro w hSw; (try dsimp only at hSw); go_simp; try with_reducible rfl)
            try simp only [Act.put, List.setIfInBounds_toArray, List.set_cons_zero, List.set_cons_succ]
            refine wpAnyH_done (by kernel_rfl) ?_ _
            have hfin : Hid (w11.ownsRow w.heap.size 23 6 v11 (i + 1) (alcells O2) ∧ Below w.heap.size w w11) := Lib.hid ⟨by rw [hO3.out, hfin5.out k, show i + 1 = k + 1 + (i - k) by omega]; exact own11, hBV'.out.trans (hx11.mono hBV'.out.size)⟩
            clear own11 grow11 hx11 own9' own9 grow9 bg9 s39 s38 s8 hx8 hx9 hHeld h0 h1 h2 h3 h4 h5
            go_wp2
            go_roundw
            case rel => exact ⟨i + 1, by omega, by go_num, Lib.hid (by rw [hOe.out]; exact hfin.out.1), Lib.hid hfin.out.2⟩
            case measure => simp [intOf]; omega
    · have hii : ¬ (i : Int) < (n : Int) := by omega
      have hfin : Hid (AlGives w (sortC cmpA l) (.returned u3) g0) := Lib.hid (by
        have := hown.out
        rw [List.take_of_length_le (by have := hnl.out; omega)] at this
        have e : i = (sortC cmpA l).length := by rw [sortA_len]; have := hnl.out; omega
        rw [e] at this
        obtain ⟨a', c', rfl, hro⟩ := ro_own this
        exact ⟨a', c', rfl, hro, hB.out⟩)
      clear hown
      go_wp2
      go_ret
      exact hfin.out
end Go.Proofs.YtimgocfkogebmaaGreatDoor
