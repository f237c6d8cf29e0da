/-
  Words and walks under the law's proof.
-/
import Derived.Deep.Cut
import Derived.Deep.QuietTactic
import Derived.BigQuiet
import Derived.Test.YtpchncpcckfghaaGreatQM03
import Derived.Test.YtpchncpcckfghaaGreatQM04
import Derived.Test.YtpchncpcckfghaaGreatQM09
namespace Go.Proofs.YtpchncpcckfghaaGreat
open Go.RowKit
set_option linter.unusedVariables false
set_option linter.unusedSimpArgs false
theorem bE_below {g b B : Nat} {V W : World} (h : BelowE [g] B V W) (hB : b ≤ B) (hg : b ≤ g) : Below b V W :=
  ((h.mono hB).less (Y := []) (fun x hx hlt => by simp at hx; omega)).none
theorem see_keep {g base n c : Nat} {e : TypeId} {k : IntKind} {a : Option Addr} {l : List Int} {V W : World} (o : V.ownsRow base e 1 (.slice a n c) n (nums k l)) (h : BelowE [g] V.heap.size V W) (hg : g < base) : Sees k W.heap.size W a l := by
  have o2 := own_belowE o h (fun q hq hx => by have := (o.lt q hq).1; simp at hx; omega)
  obtain ⟨a', c', e1, -, hs⟩ := sees_own o2
  injection e1 with e1
  subst e1
  exact hs
theorem al_cells {w : World} {b off n c : Nat} {l : List AlD} (h : RO alC w (some ⟨b, off, none⟩) n c l) {i : Nat} (hi : i < n) :
    w.cell? ⟨b, off + i * 6, none⟩ = some (.int .i64 (l.getD i al0).kind) ∧ w.cell? ⟨b, off + i * 6 + 1, none⟩ = some (.int .i64 (l.getD i al0).sev) ∧ w.cell? ⟨b, off + i * 6 + 2, none⟩ = some (.string (l.getD i al0).fn) ∧ w.cell? ⟨b, off + i * 6 + 3, none⟩ = some (.string (l.getD i al0).file) ∧ w.cell? ⟨b, off + i * 6 + 4, none⟩ = some (.int .i64 (l.getD i al0).line) ∧ w.cell? ⟨b, off + i * 6 + 5, none⟩ = some (.string (l.getD i al0).expr) := by
  obtain ⟨b', off', e, -, hc⟩ := al_at h hi
  injection e with e
  injection e with e1 e2
  subst e1 e2
  exact hc
theorem mk_cells {w : World} {b off n c : Nat} {l : List MkD} (h : RO mkC w (some ⟨b, off, none⟩) n c l) {i : Nat} (hi : i < n) :
    w.cell? ⟨b, off + i * 2, none⟩ = some (.int .u64 (l.getD i mk0).f) ∧ w.cell? ⟨b, off + i * 2 + 1, none⟩ = some (.string (l.getD i mk0).note) := by
  obtain ⟨b', off', e, -, hc⟩ := mk_at h hi
  injection e with e
  injection e with e1 e2
  subst e1 e2
  exact hc
theorem own_slice {w : World} {base n k : Nat} {e : TypeId} {v : Value} {xs : List Value} (h : w.ownsRow base e k v n xs) : ∃ a m c, v = .slice a m c := by
  obtain ⟨a, c, h, -⟩ := seesC_own h
  exact ⟨a, _, c, h⟩
def hitL (ps : List Int) (f : Int) (k : Nat) : Bool := (ps.take k).any fun x => x == f
theorem hit_next {ps : List Int} {f : Int} {k : Nat} (hk : k < ps.length) : hitL ps f (k + 1) = (hitL ps f k || ps.getD k 0 == f) := by
  unfold hitL
  rw [List.take_add_one, List.getElem?_eq_getElem hk, List.any_append]
  simp [List.getD, hk]
theorem hit_all (ps : List Int) (f : Int) : hitL ps f ps.length = decide (f ∈ ps) := by
  unfold hitL
  rw [List.take_length, Bool.eq_iff_iff, List.any_eq_true, decide_eq_true_eq]
  constructor
  · rintro ⟨x, hx, he⟩
    rw [← eq_of_beq he]
    exact hx
  · exact fun h => ⟨f, h, by simp⟩
theorem info_sp1 : (Tryz.prog.info? 28).map (·.size) = some 4 := by kernel_rfl
def SpG1 (w : World) (d : SpD) (e : Ending) (w' : World) : Prop := ∃ v : SpV, e = .returned (.agg v.cells) ∧ SpR w' v d ∧ Below w.heap.size w w'
theorem sp_ret1 {Q : Ending → World → Prop} {w : World} {g : Nat} {a1 a2 a3 a4 : Value} (hg : Holds w g 28 #[a1, a2, a3, a4]) (hQ : Q (.returned (.agg #[a1, a2, a3, a4])) w) (act : Act) (f : Func) (n : Nat) (hf : f.results = #[.cell n 28]) (ha : act.tmps.getD n undef = .pointer (some ⟨g, 0, none⟩)) (hd : act.defers = []) :
    bodyPost Tryz.prog f Q Exit.ret act w :=
  bodyPost_ret (results_cell_row hf _ _ g 28 #[a1, a2, a3, a4] (0, 0) _ ha hg Tryz.underlying28 rfl (by rw [info_sp1]; rfl)) hd hQ
theorem mkcells_one' (x : MkD) {u : Value} (hu : u ∈ mkC x) : u.oneCell' = true := mkcells_one (l := [x]) (by simpa [mkcells] using hu)
theorem alcells_one' (x : AlD) {u : Value} (hu : u ∈ alC x) : u.oneCell' = true := alcells_one (l := [x]) (by simpa [alcells] using hu)
set_option maxRecDepth 100000 in
set_option maxHeartbeats 8000000 in
theorem rbmatch_gen (w : World) (a1 a2 : Option Addr) (n1 n2 c1 c2 : Nat) (l : List MkD) (A : List AlD) (FL : List Int) (hn1 : n1 ≤ 5000) (hn : n2 ≤ 100) (h1 : RO mkC w a1 n1 c1 l) (h2 : RO alC w a2 n2 c2 A) (hf : FL.length = n2)
    (ho : ∀ W, Below w.heap.size w W → Calls Tryz.prog 27 #[.slice a2 n2 c2] W (Made 36 .u64 W FL)) :
    Calls Tryz.prog 14 #[.slice a1 n1 c1, .slice a2 n2 c2] w (SpG1 w ⟨partL al0 (fun k => hasB l (FL.getD k 0)) true A n2, partL al0 (fun k => hasB l (FL.getD k 0)) false A n2, partL mk0 (fun k => decide ((l.getD k mk0).f ∈ FL)) true l n1, partL mk0 (fun k => decide ((l.getD k mk0).f ∈ FL)) false l n1⟩) := by
  have m1 := h1.len
  have m2 := h2.len
  obtain ⟨i0, zz, hi, hz, h6, h72, hz6⟩ := infoAlZ
  obtain ⟨j0, yy, ji, jz, j6, j72, jz6⟩ := infoMkZ
  have R1 := Lib.hid (fun W hW => h1.below (w' := W) hW)
  have R2 := Lib.hid (fun W hW => h2.below (w' := W) hW)
  have qo := Lib.hid ho
  have qh := Lib.hid (fun W f hB => bhas_any W a1 n1 c1 l f (h1.below hB))
  have hfl := Lib.hid hf
  obtain ⟨D, hD⟩ : ∃ D : SpD, D = ⟨partL al0 (fun k => hasB l (FL.getD k 0)) true A n2, partL al0 (fun k => hasB l (FL.getD k 0)) false A n2, partL mk0 (fun k => decide ((l.getD k mk0).f ∈ FL)) true l n1, partL mk0 (fun k => decide ((l.getD k mk0).f ∈ FL)) false l n1⟩ := ⟨_, rfl⟩
  rw [← hD]
  have hd := Lib.hid hD
  have hm1 := Lib.hid m1
  obtain ⟨gR, hgR⟩ : ∃ g, g = w.heap.size := ⟨_, rfl⟩
  obtain ⟨gO, hgO⟩ : ∃ g, g = w.heap.size + 1 := ⟨_, rfl⟩
  obtain ⟨V0, hV0⟩ : ∃ V, V = w.alloc (.cells #[.slice none 0 0, .slice none 0 0, .slice none 0 0, .slice none 0 0] 28) := ⟨_, rfl⟩
  have b0 : Below w.heap.size w V0 := by rw [hV0]; exact box_below _ _ _
  have HR0 : Holds V0 gR 28 #[.slice none 0 0, .slice none 0 0, .slice none 0 0, .slice none 0 0] := by rw [hV0, hgR]; exact Holds.new _ _ _
  have z0 : V0.heap.size = gO := by rw [hV0, hgO]; simp
  obtain ⟨V1, hV1⟩ : ∃ V, V = V0.alloc (.cells #[.slice none 0 0, .slice none 0 0, .slice none 0 0, .slice none 0 0] 28) := ⟨_, rfl⟩
  have b1 : Below V0.heap.size V0 V1 := by rw [hV1]; exact box_below _ _ _
  have HO1 : Holds V1 gO 28 #[.slice none 0 0, .slice none 0 0, .slice none 0 0, .slice none 0 0] := by rw [hV1, ← z0]; exact Holds.new _ _ _
  have HR1 := HR0.below b1 HR0.lt
  have B1 := Lib.hid (b0.trans (b1.mono b0.size))
  have hRO : gR < gO := by omega
  have hwO : w.heap.size ≤ gO := by omega
  have hwR : w.heap.size ≤ gR := by omega
  have hgR' := Lib.hid hgR
  have hV0' := Lib.hid hV0
  have hV1' := Lib.hid hV1
  have hz0 := Lib.hid z0
  clear h1 h2 hf ho hD hV0 hV1 hgR hgO b0 b1 HR0 m1 m2 z0
  go_enter Tryz.func14, Tryz.ntmps14
  go_upto_region 1 with (fail)
  rw [← hV0'.out, ← hgR'.out]
  clear hV0' hgR'
  go_upto_region 2 with (fail)
  rw [← hV1'.out, hz0.out]
  clear hV1'
  go_wp2_with fail
  refine (qo.out V1 B1.out).mono ?_
  rintro e w2 ⟨vf, rfl, oF, b2⟩
  rw [hfl.out] at oF
  obtain ⟨af, cf, rfl, -, -⟩ := sees_own oF
  rw [hfl.out] at oF ⊢
  have HO2 := Lib.hid (HO1.below b2 HO1.lt)
  have HR2 := Lib.hid (HR1.below b2 HR1.lt)
  have B2 := Lib.hid (B1.out.trans (b2.mono B1.out.size))
  have OF := Lib.hid oF
  have hgV : gO < V1.heap.size := HO1.lt
  have hgW : gO < w2.heap.size := Nat.lt_of_lt_of_le hgV b2.size
  have hOs := Lib.hid (And.intro hgV hgW)
  clear oF b2 HO1 HR1 B1 qo hz0 hgV
  have T0 : Hid (TwoX alC 54 6 w2.heap.size w2 (.slice none 0 0) (.slice none 0 0) (partL al0 (fun k => hasB l (FL.getD k 0)) true A 0) (partL al0 (fun k => hasB l (FL.getD k 0)) false A 0)) := Lib.hid (TwoX.nil _ _ _ _)
  go_wp2
  go_loopw [7] (fun x wr => ∃ (k : Nat) (v1 v2 : Value), k ≤ n2 ∧ x = .int .i64 k ∧ Hid (TwoX alC 54 6 w2.heap.size wr v1 v2 (partL al0 (fun k => hasB l (FL.getD k 0)) true A k) (partL al0 (fun k => hasB l (FL.getD k 0)) false A k)) ∧ Hid (Holds wr gO 28 #[v1, v2, .slice none 0 0, .slice none 0 0]) ∧ Hid (BelowE [gO] w2.heap.size w2 wr)) (fun x _ => n2 - (intOf x).toNat)
  case atStart => exact ⟨0, _, _, Nat.zero_le _, rfl, T0, HO2, Lib.hid (BelowE.refl _ _ _)⟩
  case round =>
    clear T0 HO2
    obtain ⟨k, v1, v2, hk, rfl, hT, hH, hB⟩ := hrel
    generalize wr = g0 at *
    have BL := Lib.hid (B2.out.trans (bE_below hB.out B2.out.size hwO))
    by_cases hlt : k < n2
    · have hki : (k : Int) < (n2 : Int) := by omega
      obtain ⟨fb, fo, rfl, hfb, xf⟩ := sees_num (see_keep OF.out hB.out hOs.out.1) (i := k) (by rw [hfl.out]; exact hlt)
      obtain ⟨b, off, rfl, hbl, -⟩ := al_at (R2.out g0 BL.out) hlt
      have xs := Lib.hid (fun W (hW : BelowE [gO] w2.heap.size g0 W) => al_cells (R2.out W (BL.out.trans (bE_below hW B2.out.size hwO))) hlt)
      have q := Lib.hid (qh.out g0 (FL.getD k 0) BL.out)
      have hyes := Lib.hid (fun (h : hasB l (FL.getD k 0) = true) => apl_yes (d := al0) (p := fun k => hasB l (FL.getD k 0)) (l := A) (k := k) h)
      have hno := Lib.hid (fun (h : hasB l (FL.getD k 0) = false) => apl_no (d := al0) (p := fun k => hasB l (FL.getD k 0)) (l := A) (k := k) h)
      have hll := Lib.hid (fun b => apl_len al0 (fun k => hasB l (FL.getD k 0)) b A)
      generalize FL.getD k 0 = f at *
      generalize A.getD k al0 = X at *
      clear qh BL
      go_wp2_with fail
      refine q.out.mono ?_
      rintro e w8 ⟨rfl, rfl⟩
      clear q xf
      have x0 : ∀ W, BelowE [gO] w2.heap.size g0 W → W.cell? ⟨b, off + k * 6, none⟩ = some (.int .i64 X.kind) := fun W hW => (xs.out W hW).1
      have x1 : ∀ W, BelowE [gO] w2.heap.size g0 W → W.cell? ⟨b, off + k * 6 + 1, none⟩ = some (.int .i64 X.sev) := fun W hW => (xs.out W hW).2.1
      have x2 : ∀ W, BelowE [gO] w2.heap.size g0 W → W.cell? ⟨b, off + k * 6 + 2, none⟩ = some (.string X.fn) := fun W hW => (xs.out W hW).2.2.1
      have x3 : ∀ W, BelowE [gO] w2.heap.size g0 W → W.cell? ⟨b, off + k * 6 + 3, none⟩ = some (.string X.file) := fun W hW => (xs.out W hW).2.2.2.1
      have x4 : ∀ W, BelowE [gO] w2.heap.size g0 W → W.cell? ⟨b, off + k * 6 + 4, none⟩ = some (.int .i64 X.line) := fun W hW => (xs.out W hW).2.2.2.2.1
      have x5 : ∀ W, BelowE [gO] w2.heap.size g0 W → W.cell? ⟨b, off + k * 6 + 5, none⟩ = some (.string X.expr) := fun W hW => (xs.out W hW).2.2.2.2.2
      clear xs
      cases hE : hasB l f
      · obtain ⟨e1, e2⟩ := hno.out hE
        have hlen1 := hll.out false k
        have hall := Lib.hid (And.intro (show Holds g0.drew gO 28 #[v1, v2, .slice none 0 0, .slice none 0 0] from hH.out.drew) (And.intro (hT.out.symm.below (Below.refl _ _).drew) (show w2.heap.size ≤ g0.drew.heap.size from hB.out.size)))
        have hsz : g0.drew.heap.size = g0.drew.heap.size := rfl
        have h1' := Lib.hid e1
        have h2' := Lib.hid e2
        clear hyes hno hE hT hH e1 e2
        go_upto_region 8 with (fail)
        refine wp_drawn_on (fun W => BelowE [gO] w2.heap.size g0 W) (by kernel_rfl) ((BelowE.of (Below.refl _ _).drew)) (fun hHeld => ?_)
        generalize g0.drew = WD at hsz hall hHeld ⊢
        refine wT 0 (v := ?v1) rfl (by kernel_rfl) (fun _ _ _ h => h) ?h1 (by assumption) ?r1
        case h1 => (intro w hSw; (try dsimp only at hSw); go_simp; try with_reducible rfl)
        refine wT 2 (v := ?v2) rfl (by kernel_rfl) (fun _ _ _ h => h) ?h2 (by assumption) ?r2
        case h2 => (intro w hSw; (try dsimp only at hSw); go_simp; try with_reducible rfl)
        refine wT 3 (v := ?v3) rfl (by kernel_rfl) (fun _ _ _ h => h) ?h3 (by assumption) ?r3
        case h3 => (intro w hSw; (try dsimp only at hSw); go_simp; try with_reducible rfl)
        refine wT 4 (v := ?v4) rfl (by kernel_rfl) (fun _ _ _ h => h) ?h4 (by assumption) ?r4
        case h4 => (intro w hSw; (try dsimp only at hSw); go_simp; try with_reducible rfl)
        refine wT 5 (v := ?v5) rfl (by kernel_rfl) (fun _ _ _ h => h) ?h5 (by assumption) ?r5
        case h5 => (intro w hSw; (try dsimp only at hSw); go_simp; try with_reducible rfl)
        try simp only [Act.put, List.setIfInBounds_toArray, List.set_cons_zero, List.set_cons_succ]
        refine wpAnyH_ready (rs := [1, 6]) (by kernel_rfl) (by simp) ?_
        refine AllReadyH.cons (o := ⟨_, _, _, _, _, _⟩) rfl (fun K hK => ?_) (AllReadyH.cons (o := ⟨_, _, _, _, _, _⟩) rfl (fun K hK => ?_) AllReadyH.nil)
        · have c1 : (WD).cell? ⟨gO, 1, none⟩ = some v2 := by first | exact hH6.out.cell 1 | exact hall.out.1.cell 1
          go_simp
          refine hK.out _ _ (hHeld) (fun hHeld => ?_)
          clear hK K
          try simp only [Act.put, List.setIfInBounds_toArray, List.set_cons_zero, List.set_cons_succ]
          refine wpAnyH_ready (rs := [6]) (by kernel_rfl) (by simp) ?_
          refine AllReadyH.cons (o := ⟨_, _, _, _, _, _⟩) rfl (fun K hK => ?_) AllReadyH.nil
          have hx6 := hHeld.trans (BelowE.of (X := [gO]) ((box_below WD #[.int .i64 X.kind, .int .i64 X.sev, .string X.fn, .string X.file, .int .i64 X.line, .string X.expr] 54).mono hall.out.2.2))
          have hT6 := Lib.hid (hall.out.2.1.below (box_below WD #[.int .i64 X.kind, .int .i64 X.sev, .string X.fn, .string X.file, .int .i64 X.line, .string X.expr] 54))
          have hH6 := Lib.hid (hall.out.1.below (box_below WD #[.int .i64 X.kind, .int .i64 X.sev, .string X.fn, .string X.file, .int .i64 X.line, .string X.expr] 54) hall.out.1.lt)
          have hs6 := Lib.hid (seesC_lit WD 54 #[.int .i64 X.kind, .int .i64 X.sev, .string X.fn, .string X.file, .int .i64 X.line, .string X.expr])
          go_simp
          generalize WD.alloc (.cells #[.int .i64 X.kind, .int .i64 X.sev, .string X.fn, .string X.file, .int .i64 X.line, .string X.expr] 54) = w6 at *
          generalize WD.heap.size = g6 at *
          refine hK.out _ _ (hx6) (fun hHeld => ?_)
          clear hK K
          try simp only [Act.put, List.setIfInBounds_toArray, List.set_cons_zero, List.set_cons_succ]
          refine wpAnyH_ready (rs := [7]) (by kernel_rfl) (by simp) ?_
          refine AllReadyH.cons (o := ⟨_, _, _, _, _, _⟩) rfl (fun K hK => ?_) AllReadyH.nil
          refine wp_append_twoX w6 (.tmp 36) (.tmp 41) rfl i0 zz Tryz.underlying23 hi hz h6 h72 hz6 (by decide) alC_len (by decide) (fun x u hu => alcells_one' x hu) _ _ _ _ hT6.out X (some ⟨g6, 0, none⟩) hs6.out rfl rfl (by omega) ?_
          intro v7 w7 T7 b7
          have hx7 : BelowE [gO] w2.heap.size g0 w7 := hx6.trans (BelowE.of b7)
          obtain ⟨a7, n7, c7, rfl⟩ := own_slice T7.o1
          have hT7 := Lib.hid T7
          have hH7 := Lib.hid (hH6.out.below b7 hgW)
          clear T7 b7
          refine hK.out _ _ (hx7) (fun hHeld => ?_)
          clear hK K
          refine wT 8 (v := ?v6) rfl (by kernel_rfl) (fun _ _ _ h => h) ?h6 (by assumption) ?r6
          case h6 => (intro w hSw; (try dsimp only at hSw); go_simp; try with_reducible rfl)
          try simp only [Act.put, List.setIfInBounds_toArray, List.set_cons_zero, List.set_cons_succ]
          refine wpAnyH_ready (rs := [9]) (by kernel_rfl) (by simp) ?_
          refine AllReadyH.cons (o := ⟨_, _, _, _, _, _⟩) rfl (fun K hK => ?_) AllReadyH.nil
          have c9 := hH7.out.cell 1
          have f9 := hH7.out.free 1
          simp at c9
          have hx9 : BelowE [gO] w2.heap.size g0 (w7.setCell ⟨gO, 1, none⟩ (.slice a7 n7 c7)) := hx7.setIn (p := ⟨gO, 1, none⟩) (by simp) _
          have hT9 := Lib.hid (hT7.out.belowE ((BelowE.refl [gO] w7.heap.size w7).setIn (p := ⟨gO, 1, none⟩) (by simp) (.slice a7 n7 c7)) (by simp; exact hgW))
          have hH9 : Hid (Holds (w7.setCell ⟨gO, 1, none⟩ (.slice a7 n7 c7)) gO 28 #[v1, (.slice a7 n7 c7), .slice none 0 0, .slice none 0 0]) := Lib.hid (by have := hH7.out.set 1 (.slice a7 n7 c7); simpa using this)
          go_simp
          refine hK.out _ _ (hx9) (fun hHeld => ?_)
          clear hK K
          try simp only [Act.put, List.setIfInBounds_toArray, List.set_cons_zero, List.set_cons_succ]
          refine wpAnyH_done (by kernel_rfl) ?_ _
          have hXF := Lib.hid (hB.out.trans hx9)
          clear hHeld hx6 hx7 hx9 hT6 hT7 hall hH6 hH7 hs6 c1 c9 f9 hB
          generalize w7.setCell ⟨gO, 1, none⟩ (.slice a7 n7 c7) = w9 at *
          go_wp2
          go_roundw
          case rel => exact ⟨k + 1, v1, .slice a7 n7 c7, by omega, by go_num, Lib.hid (by rw [h1'.out, h2'.out]; exact hT9.out.symm), hH9, hXF⟩
          case measure => simp [intOf]; omega
        · have hx6 := hHeld.trans (BelowE.of (X := [gO]) ((box_below WD #[.int .i64 X.kind, .int .i64 X.sev, .string X.fn, .string X.file, .int .i64 X.line, .string X.expr] 54).mono hall.out.2.2))
          have hT6 := Lib.hid (hall.out.2.1.below (box_below WD #[.int .i64 X.kind, .int .i64 X.sev, .string X.fn, .string X.file, .int .i64 X.line, .string X.expr] 54))
          have hH6 := Lib.hid (hall.out.1.below (box_below WD #[.int .i64 X.kind, .int .i64 X.sev, .string X.fn, .string X.file, .int .i64 X.line, .string X.expr] 54) hall.out.1.lt)
          have hs6 := Lib.hid (seesC_lit WD 54 #[.int .i64 X.kind, .int .i64 X.sev, .string X.fn, .string X.file, .int .i64 X.line, .string X.expr])
          go_simp
          generalize WD.alloc (.cells #[.int .i64 X.kind, .int .i64 X.sev, .string X.fn, .string X.file, .int .i64 X.line, .string X.expr] 54) = w6 at *
          generalize WD.heap.size = g6 at *
          refine hK.out _ _ (hx6) (fun hHeld => ?_)
          clear hK K
          try simp only [Act.put, List.setIfInBounds_toArray, List.set_cons_zero, List.set_cons_succ]
          refine wpAnyH_ready (rs := [1]) (by kernel_rfl) (by simp) ?_
          refine AllReadyH.cons (o := ⟨_, _, _, _, _, _⟩) rfl (fun K hK => ?_) AllReadyH.nil
          have c1 : (w6).cell? ⟨gO, 1, none⟩ = some v2 := by first | exact hH6.out.cell 1 | exact hall.out.1.cell 1
          go_simp
          refine hK.out _ _ (hHeld) (fun hHeld => ?_)
          clear hK K
          try simp only [Act.put, List.setIfInBounds_toArray, List.set_cons_zero, List.set_cons_succ]
          refine wpAnyH_ready (rs := [7]) (by kernel_rfl) (by simp) ?_
          refine AllReadyH.cons (o := ⟨_, _, _, _, _, _⟩) rfl (fun K hK => ?_) AllReadyH.nil
          refine wp_append_twoX w6 (.tmp 36) (.tmp 41) rfl i0 zz Tryz.underlying23 hi hz h6 h72 hz6 (by decide) alC_len (by decide) (fun x u hu => alcells_one' x hu) _ _ _ _ hT6.out X (some ⟨g6, 0, none⟩) hs6.out rfl rfl (by omega) ?_
          intro v7 w7 T7 b7
          have hx7 : BelowE [gO] w2.heap.size g0 w7 := hx6.trans (BelowE.of b7)
          obtain ⟨a7, n7, c7, rfl⟩ := own_slice T7.o1
          have hT7 := Lib.hid T7
          have hH7 := Lib.hid (hH6.out.below b7 hgW)
          clear T7 b7
          refine hK.out _ _ (hx7) (fun hHeld => ?_)
          clear hK K
          refine wT 8 (v := ?v7) rfl (by kernel_rfl) (fun _ _ _ h => h) ?h7 (by assumption) ?r7
          case h7 => (intro w hSw; (try dsimp only at hSw); go_simp; try with_reducible rfl)
          try simp only [Act.put, List.setIfInBounds_toArray, List.set_cons_zero, List.set_cons_succ]
          refine wpAnyH_ready (rs := [9]) (by kernel_rfl) (by simp) ?_
          refine AllReadyH.cons (o := ⟨_, _, _, _, _, _⟩) rfl (fun K hK => ?_) AllReadyH.nil
          have c9 := hH7.out.cell 1
          have f9 := hH7.out.free 1
          simp at c9
          have hx9 : BelowE [gO] w2.heap.size g0 (w7.setCell ⟨gO, 1, none⟩ (.slice a7 n7 c7)) := hx7.setIn (p := ⟨gO, 1, none⟩) (by simp) _
          have hT9 := Lib.hid (hT7.out.belowE ((BelowE.refl [gO] w7.heap.size w7).setIn (p := ⟨gO, 1, none⟩) (by simp) (.slice a7 n7 c7)) (by simp; exact hgW))
          have hH9 : Hid (Holds (w7.setCell ⟨gO, 1, none⟩ (.slice a7 n7 c7)) gO 28 #[v1, (.slice a7 n7 c7), .slice none 0 0, .slice none 0 0]) := Lib.hid (by have := hH7.out.set 1 (.slice a7 n7 c7); simpa using this)
          go_simp
          refine hK.out _ _ (hx9) (fun hHeld => ?_)
          clear hK K
          try simp only [Act.put, List.setIfInBounds_toArray, List.set_cons_zero, List.set_cons_succ]
          refine wpAnyH_done (by kernel_rfl) ?_ _
          have hXF := Lib.hid (hB.out.trans hx9)
          clear hHeld hx6 hx7 hx9 hT6 hT7 hall hH6 hH7 hs6 c1 c9 f9 hB
          generalize w7.setCell ⟨gO, 1, none⟩ (.slice a7 n7 c7) = w9 at *
          go_wp2
          go_roundw
          case rel => exact ⟨k + 1, v1, .slice a7 n7 c7, by omega, by go_num, Lib.hid (by rw [h1'.out, h2'.out]; exact hT9.out.symm), hH9, hXF⟩
          case measure => simp [intOf]; omega
      · obtain ⟨e1, e2⟩ := hyes.out hE
        have hlen1 := hll.out true k
        have hall := Lib.hid (And.intro (show Holds g0.drew gO 28 #[v1, v2, .slice none 0 0, .slice none 0 0] from hH.out.drew) (And.intro (hT.out.below (Below.refl _ _).drew) (show w2.heap.size ≤ g0.drew.heap.size from hB.out.size)))
        have hsz : g0.drew.heap.size = g0.drew.heap.size := rfl
        have h1' := Lib.hid e1
        have h2' := Lib.hid e2
        clear hyes hno hE hT hH e1 e2
        go_upto_region 7 with (fail)
        refine wp_drawn_on (fun W => BelowE [gO] w2.heap.size g0 W) (by kernel_rfl) ((BelowE.of (Below.refl _ _).drew)) (fun hHeld => ?_)
        generalize g0.drew = WD at hsz hall hHeld ⊢
        refine wT 0 (v := ?v8) rfl (by kernel_rfl) (fun _ _ _ h => h) ?h8 (by assumption) ?r8
        case h8 => (intro w hSw; (try dsimp only at hSw); go_simp; try with_reducible rfl)
        refine wT 2 (v := ?v9) rfl (by kernel_rfl) (fun _ _ _ h => h) ?h9 (by assumption) ?r9
        case h9 => (intro w hSw; (try dsimp only at hSw); go_simp; try with_reducible rfl)
        refine wT 3 (v := ?v10) rfl (by kernel_rfl) (fun _ _ _ h => h) ?h10 (by assumption) ?r10
        case h10 => (intro w hSw; (try dsimp only at hSw); go_simp; try with_reducible rfl)
        refine wT 4 (v := ?v11) rfl (by kernel_rfl) (fun _ _ _ h => h) ?h11 (by assumption) ?r11
        case h11 => (intro w hSw; (try dsimp only at hSw); go_simp; try with_reducible rfl)
        refine wT 5 (v := ?v12) rfl (by kernel_rfl) (fun _ _ _ h => h) ?h12 (by assumption) ?r12
        case h12 => (intro w hSw; (try dsimp only at hSw); go_simp; try with_reducible rfl)
        try simp only [Act.put, List.setIfInBounds_toArray, List.set_cons_zero, List.set_cons_succ]
        refine wpAnyH_ready (rs := [1, 6]) (by kernel_rfl) (by simp) ?_
        refine AllReadyH.cons (o := ⟨_, _, _, _, _, _⟩) rfl (fun K hK => ?_) (AllReadyH.cons (o := ⟨_, _, _, _, _, _⟩) rfl (fun K hK => ?_) AllReadyH.nil)
        · have c1 : (WD).cell? ⟨gO, 0, none⟩ = some v1 := by first | exact hH6.out.cell 0 | exact hall.out.1.cell 0
          go_simp
          refine hK.out _ _ (hHeld) (fun hHeld => ?_)
          clear hK K
          try simp only [Act.put, List.setIfInBounds_toArray, List.set_cons_zero, List.set_cons_succ]
          refine wpAnyH_ready (rs := [6]) (by kernel_rfl) (by simp) ?_
          refine AllReadyH.cons (o := ⟨_, _, _, _, _, _⟩) rfl (fun K hK => ?_) AllReadyH.nil
          have hx6 := hHeld.trans (BelowE.of (X := [gO]) ((box_below WD #[.int .i64 X.kind, .int .i64 X.sev, .string X.fn, .string X.file, .int .i64 X.line, .string X.expr] 54).mono hall.out.2.2))
          have hT6 := Lib.hid (hall.out.2.1.below (box_below WD #[.int .i64 X.kind, .int .i64 X.sev, .string X.fn, .string X.file, .int .i64 X.line, .string X.expr] 54))
          have hH6 := Lib.hid (hall.out.1.below (box_below WD #[.int .i64 X.kind, .int .i64 X.sev, .string X.fn, .string X.file, .int .i64 X.line, .string X.expr] 54) hall.out.1.lt)
          have hs6 := Lib.hid (seesC_lit WD 54 #[.int .i64 X.kind, .int .i64 X.sev, .string X.fn, .string X.file, .int .i64 X.line, .string X.expr])
          go_simp
          generalize WD.alloc (.cells #[.int .i64 X.kind, .int .i64 X.sev, .string X.fn, .string X.file, .int .i64 X.line, .string X.expr] 54) = w6 at *
          generalize WD.heap.size = g6 at *
          refine hK.out _ _ (hx6) (fun hHeld => ?_)
          clear hK K
          try simp only [Act.put, List.setIfInBounds_toArray, List.set_cons_zero, List.set_cons_succ]
          refine wpAnyH_ready (rs := [7]) (by kernel_rfl) (by simp) ?_
          refine AllReadyH.cons (o := ⟨_, _, _, _, _, _⟩) rfl (fun K hK => ?_) AllReadyH.nil
          refine wp_append_twoX w6 (.tmp 27) (.tmp 32) rfl i0 zz Tryz.underlying23 hi hz h6 h72 hz6 (by decide) alC_len (by decide) (fun x u hu => alcells_one' x hu) _ _ _ _ hT6.out X (some ⟨g6, 0, none⟩) hs6.out rfl rfl (by omega) ?_
          intro v7 w7 T7 b7
          have hx7 : BelowE [gO] w2.heap.size g0 w7 := hx6.trans (BelowE.of b7)
          obtain ⟨a7, n7, c7, rfl⟩ := own_slice T7.o1
          have hT7 := Lib.hid T7
          have hH7 := Lib.hid (hH6.out.below b7 hgW)
          clear T7 b7
          refine hK.out _ _ (hx7) (fun hHeld => ?_)
          clear hK K
          refine wT 8 (v := ?v13) rfl (by kernel_rfl) (fun _ _ _ h => h) ?h13 (by assumption) ?r13
          case h13 => (intro w hSw; (try dsimp only at hSw); go_simp; try with_reducible rfl)
          try simp only [Act.put, List.setIfInBounds_toArray, List.set_cons_zero, List.set_cons_succ]
          refine wpAnyH_ready (rs := [9]) (by kernel_rfl) (by simp) ?_
          refine AllReadyH.cons (o := ⟨_, _, _, _, _, _⟩) rfl (fun K hK => ?_) AllReadyH.nil
          have c9 := hH7.out.cell 0
          have f9 := hH7.out.free 0
          simp at c9
          have hx9 : BelowE [gO] w2.heap.size g0 (w7.setCell ⟨gO, 0, none⟩ (.slice a7 n7 c7)) := hx7.setIn (p := ⟨gO, 0, none⟩) (by simp) _
          have hT9 := Lib.hid (hT7.out.belowE ((BelowE.refl [gO] w7.heap.size w7).setIn (p := ⟨gO, 0, none⟩) (by simp) (.slice a7 n7 c7)) (by simp; exact hgW))
          have hH9 : Hid (Holds (w7.setCell ⟨gO, 0, none⟩ (.slice a7 n7 c7)) gO 28 #[(.slice a7 n7 c7), v2, .slice none 0 0, .slice none 0 0]) := Lib.hid (by have := hH7.out.set 0 (.slice a7 n7 c7); simpa using this)
          go_simp
          refine hK.out _ _ (hx9) (fun hHeld => ?_)
          clear hK K
          try simp only [Act.put, List.setIfInBounds_toArray, List.set_cons_zero, List.set_cons_succ]
          refine wpAnyH_done (by kernel_rfl) ?_ _
          have hXF := Lib.hid (hB.out.trans hx9)
          clear hHeld hx6 hx7 hx9 hT6 hT7 hall hH6 hH7 hs6 c1 c9 f9 hB
          generalize w7.setCell ⟨gO, 0, none⟩ (.slice a7 n7 c7) = w9 at *
          go_wp2
          go_roundw
          case rel => exact ⟨k + 1, .slice a7 n7 c7, v2, by omega, by go_num, Lib.hid (by rw [h1'.out, h2'.out]; exact hT9.out), hH9, hXF⟩
          case measure => simp [intOf]; omega
        · have hx6 := hHeld.trans (BelowE.of (X := [gO]) ((box_below WD #[.int .i64 X.kind, .int .i64 X.sev, .string X.fn, .string X.file, .int .i64 X.line, .string X.expr] 54).mono hall.out.2.2))
          have hT6 := Lib.hid (hall.out.2.1.below (box_below WD #[.int .i64 X.kind, .int .i64 X.sev, .string X.fn, .string X.file, .int .i64 X.line, .string X.expr] 54))
          have hH6 := Lib.hid (hall.out.1.below (box_below WD #[.int .i64 X.kind, .int .i64 X.sev, .string X.fn, .string X.file, .int .i64 X.line, .string X.expr] 54) hall.out.1.lt)
          have hs6 := Lib.hid (seesC_lit WD 54 #[.int .i64 X.kind, .int .i64 X.sev, .string X.fn, .string X.file, .int .i64 X.line, .string X.expr])
          go_simp
          generalize WD.alloc (.cells #[.int .i64 X.kind, .int .i64 X.sev, .string X.fn, .string X.file, .int .i64 X.line, .string X.expr] 54) = w6 at *
          generalize WD.heap.size = g6 at *
          refine hK.out _ _ (hx6) (fun hHeld => ?_)
          clear hK K
          try simp only [Act.put, List.setIfInBounds_toArray, List.set_cons_zero, List.set_cons_succ]
          refine wpAnyH_ready (rs := [1]) (by kernel_rfl) (by simp) ?_
          refine AllReadyH.cons (o := ⟨_, _, _, _, _, _⟩) rfl (fun K hK => ?_) AllReadyH.nil
          have c1 : (w6).cell? ⟨gO, 0, none⟩ = some v1 := by first | exact hH6.out.cell 0 | exact hall.out.1.cell 0
          go_simp
          refine hK.out _ _ (hHeld) (fun hHeld => ?_)
          clear hK K
          try simp only [Act.put, List.setIfInBounds_toArray, List.set_cons_zero, List.set_cons_succ]
          refine wpAnyH_ready (rs := [7]) (by kernel_rfl) (by simp) ?_
          refine AllReadyH.cons (o := ⟨_, _, _, _, _, _⟩) rfl (fun K hK => ?_) AllReadyH.nil
          refine wp_append_twoX w6 (.tmp 27) (.tmp 32) rfl i0 zz Tryz.underlying23 hi hz h6 h72 hz6 (by decide) alC_len (by decide) (fun x u hu => alcells_one' x hu) _ _ _ _ hT6.out X (some ⟨g6, 0, none⟩) hs6.out rfl rfl (by omega) ?_
          intro v7 w7 T7 b7
          have hx7 : BelowE [gO] w2.heap.size g0 w7 := hx6.trans (BelowE.of b7)
          obtain ⟨a7, n7, c7, rfl⟩ := own_slice T7.o1
          have hT7 := Lib.hid T7
          have hH7 := Lib.hid (hH6.out.below b7 hgW)
          clear T7 b7
          refine hK.out _ _ (hx7) (fun hHeld => ?_)
          clear hK K
          refine wT 8 (v := ?v14) rfl (by kernel_rfl) (fun _ _ _ h => h) ?h14 (by assumption) ?r14
          case h14 => (intro w hSw; (try dsimp only at hSw); go_simp; try with_reducible rfl)
          try simp only [Act.put, List.setIfInBounds_toArray, List.set_cons_zero, List.set_cons_succ]
          refine wpAnyH_ready (rs := [9]) (by kernel_rfl) (by simp) ?_
          refine AllReadyH.cons (o := ⟨_, _, _, _, _, _⟩) rfl (fun K hK => ?_) AllReadyH.nil
          have c9 := hH7.out.cell 0
          have f9 := hH7.out.free 0
          simp at c9
          have hx9 : BelowE [gO] w2.heap.size g0 (w7.setCell ⟨gO, 0, none⟩ (.slice a7 n7 c7)) := hx7.setIn (p := ⟨gO, 0, none⟩) (by simp) _
          have hT9 := Lib.hid (hT7.out.belowE ((BelowE.refl [gO] w7.heap.size w7).setIn (p := ⟨gO, 0, none⟩) (by simp) (.slice a7 n7 c7)) (by simp; exact hgW))
          have hH9 : Hid (Holds (w7.setCell ⟨gO, 0, none⟩ (.slice a7 n7 c7)) gO 28 #[(.slice a7 n7 c7), v2, .slice none 0 0, .slice none 0 0]) := Lib.hid (by have := hH7.out.set 0 (.slice a7 n7 c7); simpa using this)
          go_simp
          refine hK.out _ _ (hx9) (fun hHeld => ?_)
          clear hK K
          try simp only [Act.put, List.setIfInBounds_toArray, List.set_cons_zero, List.set_cons_succ]
          refine wpAnyH_done (by kernel_rfl) ?_ _
          have hXF := Lib.hid (hB.out.trans hx9)
          clear hHeld hx6 hx7 hx9 hT6 hT7 hall hH6 hH7 hs6 c1 c9 f9 hB
          generalize w7.setCell ⟨gO, 0, none⟩ (.slice a7 n7 c7) = w9 at *
          go_wp2
          go_roundw
          case rel => exact ⟨k + 1, .slice a7 n7 c7, v2, by omega, by go_num, Lib.hid (by rw [h1'.out, h2'.out]; exact hT9.out), hH9, hXF⟩
          case measure => simp [intOf]; omega
    · have hki : ¬ (k : Int) < (n2 : Int) := by omega
      obtain rfl : k = n2 := by omega
      obtain ⟨L1, hL1⟩ : ∃ L, L = partL al0 (fun k => hasB l (FL.getD k 0)) true A k := ⟨_, rfl⟩
      obtain ⟨L2, hL2⟩ : ∃ L, L = partL al0 (fun k => hasB l (FL.getD k 0)) false A k := ⟨_, rfl⟩
      have hd1 := Lib.hid hL1
      have hd2 := Lib.hid hL2
      rw [← hL1, ← hL2] at hT
      clear hL1 hL2
      obtain ⟨s1, z1, s2, z2, rfl, rfl, -, -⟩ := hT.out.read alC_len (by decide)
      have hO5 := Lib.hid (own_belowE OF.out hB.out (fun q hq hx => by have := (OF.out.lt q hq).1; have := hOs.out.1; simp at hx; omega))
      have HR5 := Lib.hid (HR2.out.belowE hB.out HR2.out.lt (by simp; omega))
      have hgW5 : gO < g0.heap.size := hH.out.lt
      have hw25 : Hid (w2.heap.size ≤ g0.heap.size) := Lib.hid hB.out.size
      have hT5 := hT
      have hH5 := hH
      have B5 := BL
      clear hT hH BL hB OF HR2 B2 qh
      generalize g0 = w5 at *
      have T0 : Hid (TwoX mkC 40 2 w5.heap.size w5 (.slice none 0 0) (.slice none 0 0) (partL mk0 (fun k => decide ((l.getD k mk0).f ∈ FL)) true l 0) (partL mk0 (fun k => decide ((l.getD k mk0).f ∈ FL)) false l 0)) := Lib.hid (TwoX.nil _ _ _ _)
      go_wp2
      go_loopw [8] (fun x wr => ∃ (k : Nat) (v1 v2 : Value), k ≤ n1 ∧ x = .int .i64 k ∧ Hid (TwoX mkC 40 2 w5.heap.size wr v1 v2 (partL mk0 (fun k => decide ((l.getD k mk0).f ∈ FL)) true l k) (partL mk0 (fun k => decide ((l.getD k mk0).f ∈ FL)) false l k)) ∧ Hid (Holds wr gO 28 #[.slice s1 L1.length z1, .slice s2 L2.length z2, v1, v2]) ∧ Hid (BelowE [gO] w5.heap.size w5 wr)) (fun x _ => n1 - (intOf x).toNat)
      case atStart => exact ⟨0, _, _, Nat.zero_le _, rfl, T0, hH5, Lib.hid (BelowE.refl _ _ _)⟩
      case round =>
        clear T0 hH5 hki hlt
        rename_i n2x
        obtain ⟨i, v1, v2, hi1, rfl, hTm, hHm, hBm⟩ := hrel
        generalize wr = g1 at *
        have BL := Lib.hid (B5.out.trans (bE_below hBm.out B5.out.size hwO))
        by_cases hlt : i < n1
        · have hki : (i : Int) < (n1 : Int) := by omega
          obtain ⟨b, off, rfl, hbl, -⟩ := mk_at (R1.out g1 BL.out) hlt
          have xs := Lib.hid (fun W (hW : BelowE [gO] w5.heap.size g1 W) => mk_cells (R1.out W (BL.out.trans (bE_below hW B5.out.size hwO))) hlt)
          have hyes := Lib.hid (fun (h : decide ((l.getD i mk0).f ∈ FL) = true) => apl_yes (d := mk0) (p := fun k => decide ((l.getD k mk0).f ∈ FL)) (l := l) (k := i) h)
          have hno := Lib.hid (fun (h : decide ((l.getD i mk0).f ∈ FL) = false) => apl_no (d := mk0) (p := fun k => decide ((l.getD k mk0).f ∈ FL)) (l := l) (k := i) h)
          have hll := Lib.hid (fun b => apl_len mk0 (fun k => decide ((l.getD k mk0).f ∈ FL)) b l)
          have hFo := Lib.hid (fun W (hW : BelowE [gO] w5.heap.size w5 W) => see_keep hO5.out hW hOs.out.1)
          have hnx := Lib.hid (fun t ht => hit_next (ps := FL) (f := (l.getD i mk0).f) (k := t) ht)
          have hha := hit_all FL (l.getD i mk0).f
          rw [hfl.out] at hha
          have hha' := Lib.hid hha
          clear hha BL
          generalize l.getD i mk0 = X at *
          go_wp2
          go_loopw [9, 10] (fun mt x wr => ∃ t : Nat, t ≤ k ∧ mt = .bool (hitL FL X.f t) ∧ x = .int .i64 t ∧ Hid (Below g1.heap.size g1 wr)) (fun _ x _ => k - (intOf x).toNat)
          case atStart => exact ⟨0, Nat.zero_le _, rfl, rfl, Lib.hid (Below.refl _ _)⟩
          case round =>
            obtain ⟨t, ht, rfl, rfl, hB2⟩ := hrel
            generalize wr = g0 at *
            have hB := Lib.hid (hBm.out.trans ((BelowE.of (X := [gO]) hB2.out).mono hBm.out.size))
            have hB3 : Hid (BelowE [gO] w5.heap.size g1 g0) := Lib.hid ((BelowE.of hB2.out).mono hBm.out.size)
            by_cases hlt2 : t < k
            · have hki2 : (t : Int) < (k : Int) := by omega
              have hn' := hnx.out t (by rw [hfl.out]; exact hlt2)
              cases hE : hitL FL X.f t
              · obtain ⟨fb, fo, rfl, hfb, xf⟩ := sees_num (hFo.out g0 hB.out) (i := t) (by rw [hfl.out]; exact hlt2)
                have x0 := (xs.out g0 hB3.out).1
                rw [hE, Bool.false_or] at hn'
                have hn2' := Lib.hid hn'
                clear hn' hyes hno hll hha' hnx hE
                generalize FL.getD t 0 = f at *
                by_cases hff : f = X.f
                · have hfq : (f == X.f) = true := by simpa using hff
                  rw [hfq] at hn2'
                  go_wp2
                  go_quiet (fail)
                  go_wp2
                  go_roundw
                  case rel => exact ⟨t + 1, by omega, by rw [hn2'.out], by go_num, Lib.hid (Below.drewN hB2.out _)⟩
                  case measure => simp [intOf]; omega
                · have hfq : (f == X.f) = false := by simpa using hff
                  rw [hfq] at hn2'
                  go_wp2
                  go_quiet (fail)
                  go_wp2
                  go_roundw
                  case rel => exact ⟨t + 1, by omega, by rw [hn2'.out], by go_num, Lib.hid (Below.drewN hB2.out _)⟩
                  case measure => simp [intOf]; omega
              · rw [hE, Bool.true_or] at hn'
                have hn2' := Lib.hid hn'
                clear hn' hyes hno hll hha' hnx hE
                go_wp2
                go_quiet (fail)
                go_wp2
                go_roundw
                case rel => exact ⟨t + 1, by omega, by rw [hn2'.out], by go_num, Lib.hid (Below.drewN hB2.out _)⟩
                case measure => simp [intOf]; omega
            · have hki2 : ¬ (t : Int) < (k : Int) := by omega
              obtain rfl : t = k := by omega
              have hT := Lib.hid (hTm.out.below hB2.out)
              have hH := Lib.hid (hHm.out.below hB2.out hHm.out.lt)
              have x0 : ∀ W, BelowE [gO] w5.heap.size g0 W → W.cell? ⟨b, off + i * 2, none⟩ = some (.int .u64 X.f) := fun W hW => (xs.out W (hB3.out.trans hW)).1
              have x1 : ∀ W, BelowE [gO] w5.heap.size g0 W → W.cell? ⟨b, off + i * 2 + 1, none⟩ = some (.string X.note) := fun W hW => (xs.out W (hB3.out.trans hW)).2
              have hlz : i ≤ 5000 := by omega
              clear xs hFo hnx hTm hHm hBm hB2 hB3
              cases hEq : hitL FL X.f t
              · have hE := hha'.out.symm.trans hEq
                clear hha' hEq
                obtain ⟨e1, e2⟩ := hno.out hE
                have hlen1 := hll.out false i
                have hall := Lib.hid (And.intro (show Holds g0.drew gO 28 #[.slice s1 L1.length z1, .slice s2 L2.length z2, v1, v2] from hH.out.drew) (And.intro (hT.out.symm.below (Below.refl _ _).drew) (show w5.heap.size ≤ g0.drew.heap.size from hB.out.size)))
                have hsz : g0.drew.heap.size = g0.drew.heap.size := rfl
                have h1' := Lib.hid e1
                have h2' := Lib.hid e2
                clear hyes hno hE hT hH e1 e2
                go_upto_region 19 with (fail)
                refine wp_drawn_on (fun W => BelowE [gO] w5.heap.size g0 W) (by kernel_rfl) ((BelowE.of (Below.refl _ _).drew)) (fun hHeld => ?_)
                generalize g0.drew = WD at hsz hall hHeld ⊢
                refine wT 0 (v := ?v15) rfl (by kernel_rfl) (fun _ _ _ h => h) ?h15 (by assumption) ?r15
                case h15 => (intro w hSw; (try dsimp only at hSw); go_simp; try with_reducible rfl)
                refine wT 2 (v := ?v16) rfl (by kernel_rfl) (fun _ _ _ h => h) ?h16 (by assumption) ?r16
                case h16 => (intro w hSw; (try dsimp only at hSw); go_simp; try with_reducible rfl)
                refine wT 3 (v := ?v17) rfl (by kernel_rfl) (fun _ _ _ h => h) ?h17 (by assumption) ?r17
                case h17 => (intro w hSw; (try dsimp only at hSw); go_simp; try with_reducible rfl)
                refine wT 4 (v := ?v18) rfl (by kernel_rfl) (fun _ _ _ h => h) ?h18 (by assumption) ?r18
                case h18 => (intro w hSw; (try dsimp only at hSw); go_simp; try with_reducible rfl)
                refine wT 5 (v := ?v19) rfl (by kernel_rfl) (fun _ _ _ h => h) ?h19 (by assumption) ?r19
                case h19 => (intro w hSw; (try dsimp only at hSw); go_simp; try with_reducible rfl)
                try simp only [Act.put, List.setIfInBounds_toArray, List.set_cons_zero, List.set_cons_succ]
                refine wpAnyH_ready (rs := [1, 6]) (by kernel_rfl) (by simp) ?_
                refine AllReadyH.cons (o := ⟨_, _, _, _, _, _⟩) rfl (fun K hK => ?_) (AllReadyH.cons (o := ⟨_, _, _, _, _, _⟩) rfl (fun K hK => ?_) AllReadyH.nil)
                · have c1 : (WD).cell? ⟨gO, 3, none⟩ = some v2 := by first | exact hH6.out.cell 3 | exact hall.out.1.cell 3
                  go_simp
                  refine hK.out _ _ (hHeld) (fun hHeld => ?_)
                  clear hK K
                  try simp only [Act.put, List.setIfInBounds_toArray, List.set_cons_zero, List.set_cons_succ]
                  refine wpAnyH_ready (rs := [6]) (by kernel_rfl) (by simp) ?_
                  refine AllReadyH.cons (o := ⟨_, _, _, _, _, _⟩) rfl (fun K hK => ?_) AllReadyH.nil
                  have hx6 := hHeld.trans (BelowE.of (X := [gO]) ((box_below WD #[.int .u64 X.f, .string X.note] 40).mono hall.out.2.2))
                  have hT6 := Lib.hid (hall.out.2.1.below (box_below WD #[.int .u64 X.f, .string X.note] 40))
                  have hH6 := Lib.hid (hall.out.1.below (box_below WD #[.int .u64 X.f, .string X.note] 40) hall.out.1.lt)
                  have hs6 := Lib.hid (seesC_lit WD 40 #[.int .u64 X.f, .string X.note])
                  go_simp
                  generalize WD.alloc (.cells #[.int .u64 X.f, .string X.note] 40) = w6 at *
                  generalize WD.heap.size = g6 at *
                  refine hK.out _ _ (hx6) (fun hHeld => ?_)
                  clear hK K
                  try simp only [Act.put, List.setIfInBounds_toArray, List.set_cons_zero, List.set_cons_succ]
                  refine wpAnyH_ready (rs := [7]) (by kernel_rfl) (by simp) ?_
                  refine AllReadyH.cons (o := ⟨_, _, _, _, _, _⟩) rfl (fun K hK => ?_) AllReadyH.nil
                  refine wp_append_twoX w6 (.tmp 80) (.tmp 85) rfl j0 yy Tryz.underlying22 ji jz j6 j72 jz6 (by decide) mkC_len (by decide) (fun x u hu => mkcells_one' x hu) _ _ _ _ hT6.out X (some ⟨g6, 0, none⟩) hs6.out rfl rfl (by omega) ?_
                  intro v7 w7 T7 b7
                  have hx7 : BelowE [gO] w5.heap.size g0 w7 := hx6.trans (BelowE.of b7)
                  obtain ⟨a7, n7, c7, rfl⟩ := own_slice T7.o1
                  have hT7 := Lib.hid T7
                  have hH7 := Lib.hid (hH6.out.below b7 hgW5)
                  clear T7 b7
                  refine hK.out _ _ (hx7) (fun hHeld => ?_)
                  clear hK K
                  refine wT 8 (v := ?v20) rfl (by kernel_rfl) (fun _ _ _ h => h) ?h20 (by assumption) ?r20
                  case h20 => (intro w hSw; (try dsimp only at hSw); go_simp; try with_reducible rfl)
                  try simp only [Act.put, List.setIfInBounds_toArray, List.set_cons_zero, List.set_cons_succ]
                  refine wpAnyH_ready (rs := [9]) (by kernel_rfl) (by simp) ?_
                  refine AllReadyH.cons (o := ⟨_, _, _, _, _, _⟩) rfl (fun K hK => ?_) AllReadyH.nil
                  have c9 := hH7.out.cell 3
                  have f9 := hH7.out.free 3
                  simp at c9
                  have hx9 : BelowE [gO] w5.heap.size g0 (w7.setCell ⟨gO, 3, none⟩ (.slice a7 n7 c7)) := hx7.setIn (p := ⟨gO, 3, none⟩) (by simp) _
                  have hT9 := Lib.hid (hT7.out.belowE ((BelowE.refl [gO] w7.heap.size w7).setIn (p := ⟨gO, 3, none⟩) (by simp) (.slice a7 n7 c7)) (by simp; exact hgW5))
                  have hH9 : Hid (Holds (w7.setCell ⟨gO, 3, none⟩ (.slice a7 n7 c7)) gO 28 #[.slice s1 L1.length z1, .slice s2 L2.length z2, v1, (.slice a7 n7 c7)]) := Lib.hid (by have := hH7.out.set 3 (.slice a7 n7 c7); simpa using this)
                  go_simp
                  refine hK.out _ _ (hx9) (fun hHeld => ?_)
                  clear hK K
                  try simp only [Act.put, List.setIfInBounds_toArray, List.set_cons_zero, List.set_cons_succ]
                  refine wpAnyH_done (by kernel_rfl) ?_ _
                  have hXF := Lib.hid (hB.out.trans hx9)
                  clear hHeld hx6 hx7 hx9 hT6 hT7 hall hH6 hH7 hs6 c1 c9 f9 hB
                  generalize w7.setCell ⟨gO, 3, none⟩ (.slice a7 n7 c7) = w9 at *
                  go_wp2
                  go_roundw
                  case rel => exact ⟨i + 1, v1, .slice a7 n7 c7, by omega, by go_num, Lib.hid (by rw [h1'.out, h2'.out]; exact hT9.out.symm), hH9, hXF⟩
                  case measure => simp [intOf]; omega
                · have hx6 := hHeld.trans (BelowE.of (X := [gO]) ((box_below WD #[.int .u64 X.f, .string X.note] 40).mono hall.out.2.2))
                  have hT6 := Lib.hid (hall.out.2.1.below (box_below WD #[.int .u64 X.f, .string X.note] 40))
                  have hH6 := Lib.hid (hall.out.1.below (box_below WD #[.int .u64 X.f, .string X.note] 40) hall.out.1.lt)
                  have hs6 := Lib.hid (seesC_lit WD 40 #[.int .u64 X.f, .string X.note])
                  go_simp
                  generalize WD.alloc (.cells #[.int .u64 X.f, .string X.note] 40) = w6 at *
                  generalize WD.heap.size = g6 at *
                  refine hK.out _ _ (hx6) (fun hHeld => ?_)
                  clear hK K
                  try simp only [Act.put, List.setIfInBounds_toArray, List.set_cons_zero, List.set_cons_succ]
                  refine wpAnyH_ready (rs := [1]) (by kernel_rfl) (by simp) ?_
                  refine AllReadyH.cons (o := ⟨_, _, _, _, _, _⟩) rfl (fun K hK => ?_) AllReadyH.nil
                  have c1 : (w6).cell? ⟨gO, 3, none⟩ = some v2 := by first | exact hH6.out.cell 3 | exact hall.out.1.cell 3
                  go_simp
                  refine hK.out _ _ (hHeld) (fun hHeld => ?_)
                  clear hK K
                  try simp only [Act.put, List.setIfInBounds_toArray, List.set_cons_zero, List.set_cons_succ]
                  refine wpAnyH_ready (rs := [7]) (by kernel_rfl) (by simp) ?_
                  refine AllReadyH.cons (o := ⟨_, _, _, _, _, _⟩) rfl (fun K hK => ?_) AllReadyH.nil
                  refine wp_append_twoX w6 (.tmp 80) (.tmp 85) rfl j0 yy Tryz.underlying22 ji jz j6 j72 jz6 (by decide) mkC_len (by decide) (fun x u hu => mkcells_one' x hu) _ _ _ _ hT6.out X (some ⟨g6, 0, none⟩) hs6.out rfl rfl (by omega) ?_
                  intro v7 w7 T7 b7
                  have hx7 : BelowE [gO] w5.heap.size g0 w7 := hx6.trans (BelowE.of b7)
                  obtain ⟨a7, n7, c7, rfl⟩ := own_slice T7.o1
                  have hT7 := Lib.hid T7
                  have hH7 := Lib.hid (hH6.out.below b7 hgW5)
                  clear T7 b7
                  refine hK.out _ _ (hx7) (fun hHeld => ?_)
                  clear hK K
                  refine wT 8 (v := ?v21) rfl (by kernel_rfl) (fun _ _ _ h => h) ?h21 (by assumption) ?r21
                  case h21 => (intro w hSw; (try dsimp only at hSw); go_simp; try with_reducible rfl)
                  try simp only [Act.put, List.setIfInBounds_toArray, List.set_cons_zero, List.set_cons_succ]
                  refine wpAnyH_ready (rs := [9]) (by kernel_rfl) (by simp) ?_
                  refine AllReadyH.cons (o := ⟨_, _, _, _, _, _⟩) rfl (fun K hK => ?_) AllReadyH.nil
                  have c9 := hH7.out.cell 3
                  have f9 := hH7.out.free 3
                  simp at c9
                  have hx9 : BelowE [gO] w5.heap.size g0 (w7.setCell ⟨gO, 3, none⟩ (.slice a7 n7 c7)) := hx7.setIn (p := ⟨gO, 3, none⟩) (by simp) _
                  have hT9 := Lib.hid (hT7.out.belowE ((BelowE.refl [gO] w7.heap.size w7).setIn (p := ⟨gO, 3, none⟩) (by simp) (.slice a7 n7 c7)) (by simp; exact hgW5))
                  have hH9 : Hid (Holds (w7.setCell ⟨gO, 3, none⟩ (.slice a7 n7 c7)) gO 28 #[.slice s1 L1.length z1, .slice s2 L2.length z2, v1, (.slice a7 n7 c7)]) := Lib.hid (by have := hH7.out.set 3 (.slice a7 n7 c7); simpa using this)
                  go_simp
                  refine hK.out _ _ (hx9) (fun hHeld => ?_)
                  clear hK K
                  try simp only [Act.put, List.setIfInBounds_toArray, List.set_cons_zero, List.set_cons_succ]
                  refine wpAnyH_done (by kernel_rfl) ?_ _
                  have hXF := Lib.hid (hB.out.trans hx9)
                  clear hHeld hx6 hx7 hx9 hT6 hT7 hall hH6 hH7 hs6 c1 c9 f9 hB
                  generalize w7.setCell ⟨gO, 3, none⟩ (.slice a7 n7 c7) = w9 at *
                  go_wp2
                  go_roundw
                  case rel => exact ⟨i + 1, v1, .slice a7 n7 c7, by omega, by go_num, Lib.hid (by rw [h1'.out, h2'.out]; exact hT9.out.symm), hH9, hXF⟩
                  case measure => simp [intOf]; omega
              · have hE := hha'.out.symm.trans hEq
                clear hha' hEq
                obtain ⟨e1, e2⟩ := hyes.out hE
                have hlen1 := hll.out true i
                have hall := Lib.hid (And.intro (show Holds g0.drew gO 28 #[.slice s1 L1.length z1, .slice s2 L2.length z2, v1, v2] from hH.out.drew) (And.intro (hT.out.below (Below.refl _ _).drew) (show w5.heap.size ≤ g0.drew.heap.size from hB.out.size)))
                have hsz : g0.drew.heap.size = g0.drew.heap.size := rfl
                have h1' := Lib.hid e1
                have h2' := Lib.hid e2
                clear hyes hno hE hT hH e1 e2
                go_upto_region 18 with (fail)
                refine wp_drawn_on (fun W => BelowE [gO] w5.heap.size g0 W) (by kernel_rfl) ((BelowE.of (Below.refl _ _).drew)) (fun hHeld => ?_)
                generalize g0.drew = WD at hsz hall hHeld ⊢
                refine wT 0 (v := ?v22) rfl (by kernel_rfl) (fun _ _ _ h => h) ?h22 (by assumption) ?r22
                case h22 => (intro w hSw; (try dsimp only at hSw); go_simp; try with_reducible rfl)
                refine wT 2 (v := ?v23) rfl (by kernel_rfl) (fun _ _ _ h => h) ?h23 (by assumption) ?r23
                case h23 => (intro w hSw; (try dsimp only at hSw); go_simp; try with_reducible rfl)
                refine wT 3 (v := ?v24) rfl (by kernel_rfl) (fun _ _ _ h => h) ?h24 (by assumption) ?r24
                case h24 => (intro w hSw; (try dsimp only at hSw); go_simp; try with_reducible rfl)
                refine wT 4 (v := ?v25) rfl (by kernel_rfl) (fun _ _ _ h => h) ?h25 (by assumption) ?r25
                case h25 => (intro w hSw; (try dsimp only at hSw); go_simp; try with_reducible rfl)
                refine wT 5 (v := ?v26) rfl (by kernel_rfl) (fun _ _ _ h => h) ?h26 (by assumption) ?r26
                case h26 => (intro w hSw; (try dsimp only at hSw); go_simp; try with_reducible rfl)
                try simp only [Act.put, List.setIfInBounds_toArray, List.set_cons_zero, List.set_cons_succ]
                refine wpAnyH_ready (rs := [1, 6]) (by kernel_rfl) (by simp) ?_
                refine AllReadyH.cons (o := ⟨_, _, _, _, _, _⟩) rfl (fun K hK => ?_) (AllReadyH.cons (o := ⟨_, _, _, _, _, _⟩) rfl (fun K hK => ?_) AllReadyH.nil)
                · have c1 : (WD).cell? ⟨gO, 2, none⟩ = some v1 := by first | exact hH6.out.cell 2 | exact hall.out.1.cell 2
                  go_simp
                  refine hK.out _ _ (hHeld) (fun hHeld => ?_)
                  clear hK K
                  try simp only [Act.put, List.setIfInBounds_toArray, List.set_cons_zero, List.set_cons_succ]
                  refine wpAnyH_ready (rs := [6]) (by kernel_rfl) (by simp) ?_
                  refine AllReadyH.cons (o := ⟨_, _, _, _, _, _⟩) rfl (fun K hK => ?_) AllReadyH.nil
                  have hx6 := hHeld.trans (BelowE.of (X := [gO]) ((box_below WD #[.int .u64 X.f, .string X.note] 40).mono hall.out.2.2))
                  have hT6 := Lib.hid (hall.out.2.1.below (box_below WD #[.int .u64 X.f, .string X.note] 40))
                  have hH6 := Lib.hid (hall.out.1.below (box_below WD #[.int .u64 X.f, .string X.note] 40) hall.out.1.lt)
                  have hs6 := Lib.hid (seesC_lit WD 40 #[.int .u64 X.f, .string X.note])
                  go_simp
                  generalize WD.alloc (.cells #[.int .u64 X.f, .string X.note] 40) = w6 at *
                  generalize WD.heap.size = g6 at *
                  refine hK.out _ _ (hx6) (fun hHeld => ?_)
                  clear hK K
                  try simp only [Act.put, List.setIfInBounds_toArray, List.set_cons_zero, List.set_cons_succ]
                  refine wpAnyH_ready (rs := [7]) (by kernel_rfl) (by simp) ?_
                  refine AllReadyH.cons (o := ⟨_, _, _, _, _, _⟩) rfl (fun K hK => ?_) AllReadyH.nil
                  refine wp_append_twoX w6 (.tmp 71) (.tmp 76) rfl j0 yy Tryz.underlying22 ji jz j6 j72 jz6 (by decide) mkC_len (by decide) (fun x u hu => mkcells_one' x hu) _ _ _ _ hT6.out X (some ⟨g6, 0, none⟩) hs6.out rfl rfl (by omega) ?_
                  intro v7 w7 T7 b7
                  have hx7 : BelowE [gO] w5.heap.size g0 w7 := hx6.trans (BelowE.of b7)
                  obtain ⟨a7, n7, c7, rfl⟩ := own_slice T7.o1
                  have hT7 := Lib.hid T7
                  have hH7 := Lib.hid (hH6.out.below b7 hgW5)
                  clear T7 b7
                  refine hK.out _ _ (hx7) (fun hHeld => ?_)
                  clear hK K
                  refine wT 8 (v := ?v27) rfl (by kernel_rfl) (fun _ _ _ h => h) ?h27 (by assumption) ?r27
                  case h27 => (intro w hSw; (try dsimp only at hSw); go_simp; try with_reducible rfl)
                  try simp only [Act.put, List.setIfInBounds_toArray, List.set_cons_zero, List.set_cons_succ]
                  refine wpAnyH_ready (rs := [9]) (by kernel_rfl) (by simp) ?_
                  refine AllReadyH.cons (o := ⟨_, _, _, _, _, _⟩) rfl (fun K hK => ?_) AllReadyH.nil
                  have c9 := hH7.out.cell 2
                  have f9 := hH7.out.free 2
                  simp at c9
                  have hx9 : BelowE [gO] w5.heap.size g0 (w7.setCell ⟨gO, 2, none⟩ (.slice a7 n7 c7)) := hx7.setIn (p := ⟨gO, 2, none⟩) (by simp) _
                  have hT9 := Lib.hid (hT7.out.belowE ((BelowE.refl [gO] w7.heap.size w7).setIn (p := ⟨gO, 2, none⟩) (by simp) (.slice a7 n7 c7)) (by simp; exact hgW5))
                  have hH9 : Hid (Holds (w7.setCell ⟨gO, 2, none⟩ (.slice a7 n7 c7)) gO 28 #[.slice s1 L1.length z1, .slice s2 L2.length z2, (.slice a7 n7 c7), v2]) := Lib.hid (by have := hH7.out.set 2 (.slice a7 n7 c7); simpa using this)
                  go_simp
                  refine hK.out _ _ (hx9) (fun hHeld => ?_)
                  clear hK K
                  try simp only [Act.put, List.setIfInBounds_toArray, List.set_cons_zero, List.set_cons_succ]
                  refine wpAnyH_done (by kernel_rfl) ?_ _
                  have hXF := Lib.hid (hB.out.trans hx9)
                  clear hHeld hx6 hx7 hx9 hT6 hT7 hall hH6 hH7 hs6 c1 c9 f9 hB
                  generalize w7.setCell ⟨gO, 2, none⟩ (.slice a7 n7 c7) = w9 at *
                  go_wp2
                  go_roundw
                  case rel => exact ⟨i + 1, .slice a7 n7 c7, v2, by omega, by go_num, Lib.hid (by rw [h1'.out, h2'.out]; exact hT9.out), hH9, hXF⟩
                  case measure => simp [intOf]; omega
                · have hx6 := hHeld.trans (BelowE.of (X := [gO]) ((box_below WD #[.int .u64 X.f, .string X.note] 40).mono hall.out.2.2))
                  have hT6 := Lib.hid (hall.out.2.1.below (box_below WD #[.int .u64 X.f, .string X.note] 40))
                  have hH6 := Lib.hid (hall.out.1.below (box_below WD #[.int .u64 X.f, .string X.note] 40) hall.out.1.lt)
                  have hs6 := Lib.hid (seesC_lit WD 40 #[.int .u64 X.f, .string X.note])
                  go_simp
                  generalize WD.alloc (.cells #[.int .u64 X.f, .string X.note] 40) = w6 at *
                  generalize WD.heap.size = g6 at *
                  refine hK.out _ _ (hx6) (fun hHeld => ?_)
                  clear hK K
                  try simp only [Act.put, List.setIfInBounds_toArray, List.set_cons_zero, List.set_cons_succ]
                  refine wpAnyH_ready (rs := [1]) (by kernel_rfl) (by simp) ?_
                  refine AllReadyH.cons (o := ⟨_, _, _, _, _, _⟩) rfl (fun K hK => ?_) AllReadyH.nil
                  have c1 : (w6).cell? ⟨gO, 2, none⟩ = some v1 := by first | exact hH6.out.cell 2 | exact hall.out.1.cell 2
                  go_simp
                  refine hK.out _ _ (hHeld) (fun hHeld => ?_)
                  clear hK K
                  try simp only [Act.put, List.setIfInBounds_toArray, List.set_cons_zero, List.set_cons_succ]
                  refine wpAnyH_ready (rs := [7]) (by kernel_rfl) (by simp) ?_
                  refine AllReadyH.cons (o := ⟨_, _, _, _, _, _⟩) rfl (fun K hK => ?_) AllReadyH.nil
                  refine wp_append_twoX w6 (.tmp 71) (.tmp 76) rfl j0 yy Tryz.underlying22 ji jz j6 j72 jz6 (by decide) mkC_len (by decide) (fun x u hu => mkcells_one' x hu) _ _ _ _ hT6.out X (some ⟨g6, 0, none⟩) hs6.out rfl rfl (by omega) ?_
                  intro v7 w7 T7 b7
                  have hx7 : BelowE [gO] w5.heap.size g0 w7 := hx6.trans (BelowE.of b7)
                  obtain ⟨a7, n7, c7, rfl⟩ := own_slice T7.o1
                  have hT7 := Lib.hid T7
                  have hH7 := Lib.hid (hH6.out.below b7 hgW5)
                  clear T7 b7
                  refine hK.out _ _ (hx7) (fun hHeld => ?_)
                  clear hK K
                  refine wT 8 (v := ?v28) rfl (by kernel_rfl) (fun _ _ _ h => h) ?h28 (by assumption) ?r28
                  case h28 => (intro w hSw; (try dsimp only at hSw); go_simp; try with_reducible rfl)
                  try simp only [Act.put, List.setIfInBounds_toArray, List.set_cons_zero, List.set_cons_succ]
                  refine wpAnyH_ready (rs := [9]) (by kernel_rfl) (by simp) ?_
                  refine AllReadyH.cons (o := ⟨_, _, _, _, _, _⟩) rfl (fun K hK => ?_) AllReadyH.nil
                  have c9 := hH7.out.cell 2
                  have f9 := hH7.out.free 2
                  simp at c9
                  have hx9 : BelowE [gO] w5.heap.size g0 (w7.setCell ⟨gO, 2, none⟩ (.slice a7 n7 c7)) := hx7.setIn (p := ⟨gO, 2, none⟩) (by simp) _
                  have hT9 := Lib.hid (hT7.out.belowE ((BelowE.refl [gO] w7.heap.size w7).setIn (p := ⟨gO, 2, none⟩) (by simp) (.slice a7 n7 c7)) (by simp; exact hgW5))
                  have hH9 : Hid (Holds (w7.setCell ⟨gO, 2, none⟩ (.slice a7 n7 c7)) gO 28 #[.slice s1 L1.length z1, .slice s2 L2.length z2, (.slice a7 n7 c7), v2]) := Lib.hid (by have := hH7.out.set 2 (.slice a7 n7 c7); simpa using this)
                  go_simp
                  refine hK.out _ _ (hx9) (fun hHeld => ?_)
                  clear hK K
                  try simp only [Act.put, List.setIfInBounds_toArray, List.set_cons_zero, List.set_cons_succ]
                  refine wpAnyH_done (by kernel_rfl) ?_ _
                  have hXF := Lib.hid (hB.out.trans hx9)
                  clear hHeld hx6 hx7 hx9 hT6 hT7 hall hH6 hH7 hs6 c1 c9 f9 hB
                  generalize w7.setCell ⟨gO, 2, none⟩ (.slice a7 n7 c7) = w9 at *
                  go_wp2
                  go_roundw
                  case rel => exact ⟨i + 1, .slice a7 n7 c7, v2, by omega, by go_num, Lib.hid (by rw [h1'.out, h2'.out]; exact hT9.out), hH9, hXF⟩
                  case measure => simp [intOf]; omega
        · have hki : ¬ (i : Int) < (n1 : Int) := by omega
          obtain rfl : i = n1 := by omega
          obtain ⟨L3, hL3⟩ : ∃ L, L = partL mk0 (fun k => decide ((l.getD k mk0).f ∈ FL)) true l i := ⟨_, rfl⟩
          obtain ⟨L4, hL4⟩ : ∃ L, L = partL mk0 (fun k => decide ((l.getD k mk0).f ∈ FL)) false l i := ⟨_, rfl⟩
          rw [← hL3, ← hL4] at hTm
          have hD : Hid (D = ⟨L1, L2, L3, L4⟩) := Lib.hid (by rw [hd.out, hd1.out, hd2.out, hL3, hL4])
          obtain ⟨s3, z3, s4, z4, rfl, rfl, -, -⟩ := hTm.out.read mkC_len (by decide)
          have HR6 := HR5.out.belowE hBm.out HR5.out.lt (by simp; omega)
          have T6 := Lib.hid (hT5.out.belowE hBm.out (by simp; exact hgW))
          have hwz : Hid (gR < w2.heap.size ∧ gR < w5.heap.size) := Lib.hid ⟨by omega, by omega⟩
          have BF := BL
          have k0 := hHm.out.cell 0
          have k1 := hHm.out.cell 1
          have k2 := hHm.out.cell 2
          have k3 := hHm.out.cell 3
          simp at k0 k1 k2 k3
          clear hL3 hL4 hd1 hd2 hd hO5 HR5 hT5 hBm hHm B5 BL R1 R2
          go_wp2_with
            (refine wpList_store_row rfl 28 (.tmp 4) (.tmp 88) rfl gR #[.slice s1 L1.length z1, .slice s2 L2.length z2, .slice s3 L3.length z3, .slice s4 L4.length z4] rfl rfl 28 #[.slice none 0 0, .slice none 0 0, .slice none 0 0, .slice none 0 0] HR6 (by rw [info_sp1]; rfl) rfl (by simp [Value.oneCell']) ?_
             have bS : Hid (Below w.heap.size w (g1.setRow gR #[.slice s1 L1.length z1, .slice s2 L2.length z2, .slice s3 L3.length z3, .slice s4 L4.length z4])) := Lib.hid (mk_setRow BF.out hwR _)
             have HSf : Hid (Holds (g1.setRow gR #[.slice s1 L1.length z1, .slice s2 L2.length z2, .slice s3 L3.length z3, .slice s4 L4.length z4]) gR 28 #[.slice s1 L1.length z1, .slice s2 L2.length z2, .slice s3 L3.length z3, .slice s4 L4.length z4]) := Lib.hid (setRow_heap g1 gR #[.slice none 0 0, .slice none 0 0, .slice none 0 0, .slice none 0 0] _ 28 (0, 0) HR6)
             have bSE : Hid (BelowE [gR] g1.heap.size g1 (g1.setRow gR #[.slice s1 L1.length z1, .slice s2 L2.length z2, .slice s3 L3.length z3, .slice s4 L4.length z4])) := Lib.hid ⟨rfl, rfl, rfl, by simp, fun k _ hk => setRow_other g1 gR k _ (by simpa using hk)⟩
             generalize g1.setRow gR #[.slice s1 L1.length z1, .slice s2 L2.length z2, .slice s3 L3.length z3, .slice s4 L4.length z4] = V12 at *)
          refine sp_ret1 HSf.out ⟨⟨s1, L1.length, z1, s2, L2.length, z2, s3, L3.length, z3, s4, L4.length, z4⟩, rfl, ?_, bS.out⟩ _ _ 4 rfl rfl rfl
          have F1 := T6.out.belowE bSE.out (by simp; exact hwz.out.1)
          have F2 := hTm.out.belowE bSE.out (by simp; exact hwz.out.2)
          obtain ⟨p1, q1, p2, q2, e1, e2, f1, f2⟩ := F1.read alC_len (by decide)
          obtain ⟨p3, q3, p4, q4, e3, e4, f3, f4⟩ := F2.read mkC_len (by decide)
          injection e1 with e1 _ e1c
          injection e2 with e2 _ e2c
          injection e3 with e3 _ e3c
          injection e4 with e4 _ e4c
          subst e1 e1c e2 e2c e3 e3c e4 e4c
          rw [hD.out]
          exact ⟨f1, f2, f3, f4⟩
end Go.Proofs.YtpchncpcckfghaaGreat
