/-
  Words and walks under the law's proof.
-/
import Derived.Sort.WalkB2
import Derived.Deep.Cut
import Derived.Deep.QuietTactic
import Derived.BigQuiet
import Derived.Sort.WalkB3
import Derived.Sort.Walk7a
import Derived.Test.YtpchncpcckfghaaGreatQM02
import Derived.Test.YtpchncpcckfghaaGreatQM03
import Derived.Test.YtpchncpcckfghaaGreatQM04
import Derived.Test.YtpchncpcckfghaaGreatQM06
namespace Go.Proofs.YtpchncpcckfghaaGreat
open Go.RowKit
set_option linter.unusedVariables false
set_option linter.unusedSimpArgs false
def printsL (A : List AlD) (n : Nat) : List Int := (List.range n).map (fun i => oneK (keyA (A.getD i al0)) (rankA A i))
def splitD (l : List MkD) (A : List AlD) (ps : List Int) : SpD :=
  ⟨partL al0 (fun k => hasB l (ps.getD k 0)) true A A.length, partL al0 (fun k => hasB l (ps.getD k 0)) false A A.length, partL mk0 (fun k => decide ((l.getD k mk0).f ∈ ps)) true l l.length, partL mk0 (fun k => decide ((l.getD k mk0).f ∈ ps)) false l l.length⟩
def SpG (w : World) (d : SpD) (err : Int) (e : Ending) (w' : World) : Prop := ∃ v : SpV, e = .returned (.tuple #[.agg v.cells, .int .i64 err]) ∧ SpR w' v d ∧ Below w.heap.size w w'
theorem info_sp : (Tryz.prog.info? 28).map (·.size) = some 4 := by kernel_rfl
theorem sp_ret2 {Q : Ending → World → Prop} {w : World} {g : Nat} {a1 a2 a3 a4 u : Value} (hg : Holds w g 28 #[a1, a2, a3, a4]) (hQ : Q (.returned (.tuple #[.agg #[a1, a2, a3, a4], u])) w) (act : Act) (f : Func) (n m : Nat) (hf : f.results = #[.cell n 28, .tmp m]) (ha : act.tmps.getD n undef = .pointer (some ⟨g, 0, none⟩)) (hm : act.tmps.getD m undef = u) (hd : act.defers = []) :
    bodyPost Tryz.prog f Q Exit.ret act w := by
  refine bodyPost_ret (v := .tuple #[.agg #[a1, a2, a3, a4], u]) ?_ hd hQ
  rw [results_cell_tmp hf, ha, hm]
  simp [asAddr, run_loadVar_row w g 28 28 #[a1, a2, a3, a4] (0, 0) _ hg Tryz.underlying28 rfl (by rw [info_sp]; rfl), Result.andThen]
theorem prints_len (A : List AlD) (n : Nat) : (printsL A n).length = n := by simp [printsL]
set_option maxRecDepth 100000 in
set_option maxHeartbeats 8000000 in
theorem bmatch_ok (w : World) (a1 a2 : Option Addr) (n1 n2 c1 c2 : Nat) (l : List MkD) (A : List AlD) (hb : baseB l = true) (h1 : RO mkC w a1 n1 c1 l) (h2 : RO alC w a2 n2 c2 A) (hW : ∀ s ∈ A, alW s) (hS : ∀ s ∈ A, smallA s) (hn : n2 ≤ 100) (hP : PdqOK n2) :
    Calls Tryz.prog 11 #[.slice a1 n1 c1, .slice a2 n2 c2] w (SpG w (splitD l A (printsL A n2)) 0) := by
  have hpl := prints_len A n2
  have l1 := baseB_len hb
  have m1 := h1.len
  have m2 := h2.len
  have R1 := Lib.hid (fun W hW => h1.below (w' := W) hW)
  have R2 := Lib.hid (fun W hW => h2.below (w' := W) hW)
  have q0 := Lib.hid (fun W hW => by have := bbase_any W a1 n1 c1 l (h1.below hW); rw [bchk_yes hb] at this; exact this)
  have qf := Lib.hid (fun W hB => fofs_any A a2 n2 c2 W (h2.below hB) hW hS hn)
  have qs := Lib.hid (fun Bs cap a W hBs hBl hz => sorted_any Bs n2 cap a (printsL A n2) hpl.symm (by omega) hP W hBs hBl hz)
  have q1 := Lib.hid (fun W gl gp ap cp hR hg1 hp hg2 k hk x => match1_any W a1 n1 c1 gl l (by omega) (baseB_rise hb) hR 22 55 hg1 ap n2 cp gp (printsL A n2) hpl.symm hp hg2 (by omega) k hk x)
  obtain ⟨d, hd⟩ : ∃ d, d = splitD l A (printsL A n2) := ⟨_, rfl⟩
  rw [← hd]
  have hd' := Lib.hid hd
  have hp' : Hid (printsL A n2 = (List.range n2).map (fun i => oneK (keyA (A.getD i al0)) (rankA A i))) := Lib.hid rfl
  rw [← hp'.out] at qf
  have hpl' := Lib.hid hpl
  generalize printsL A n2 = ps at *
  obtain ⟨gl, hgl⟩ : ∃ gl, gl = w.heap.size := ⟨_, rfl⟩
  obtain ⟨g4, hg4⟩ : ∃ g4, g4 = w.heap.size + 1 := ⟨_, rfl⟩
  obtain ⟨V0, hV0⟩ : ∃ V, V = (w.alloc (.cells #[.slice a1 n1 c1] 22)).alloc (.cells #[.slice none 0 0, .slice none 0 0, .slice none 0 0, .slice none 0 0] 28) := ⟨_, rfl⟩
  have b0 : Below w.heap.size w V0 := by rw [hV0]; exact box2_below _ _ _ _ _
  have HL0 : Holds V0 gl 22 #[.slice a1 n1 c1] := by rw [hV0, hgl]; exact (Holds.new _ _ _).alloc _
  have H40 : Holds V0 g4 28 #[.slice none 0 0, .slice none 0 0, .slice none 0 0, .slice none 0 0] := by rw [hV0, hg4]; have := Holds.new (w.alloc (.cells #[.slice a1 n1 c1] 22)) 28 #[.slice none 0 0, .slice none 0 0, .slice none 0 0, .slice none 0 0]; rwa [World.size_alloc] at this
  have k0 := HL0.cell 0
  simp at k0
  have hV0' := Lib.hid hV0
  have hgl' := Lib.hid hgl
  have hg4' := Lib.hid hg4
  have HL0' := Lib.hid HL0
  have H40' := Lib.hid H40
  have B0 := Lib.hid b0
  have hm1 := Lib.hid m1
  have hm2 := Lib.hid m2
  have hl1 := Lib.hid l1
  clear hW hS hP hb h1 h2 hd hgl hg4 hV0 HL0 H40 b0 hpl m1 m2 l1
  go_enter Tryz.func11, Tryz.ntmps11
  go_upto_region 1 with (fail)
  rw [← hV0'.out, ← hg4'.out, ← hgl'.out]
  go_wp2_with fail
  refine (q0.out V0 B0.out).mono ?_
  rintro e w1 ⟨rfl, b1⟩
  have HL1 := Lib.hid (HL0'.out.below b1 HL0'.out.lt)
  have H41 := Lib.hid (H40'.out.below b1 H40'.out.lt)
  have B1 := Lib.hid (B0.out.trans (b1.mono B0.out.size))
  clear b1 HL0' H40' B0 q0 k0
  go_wp2_with fail
  refine (qf.out w1 B1.out).mono ?_
  rintro e w2 hm
  obtain ⟨ap, cp, rfl, sp, b2⟩ := hm.open n2 hpl'.out
  have HL2 := HL1.out.below b2 HL1.out.lt
  have H42 := H41.out.below b2 H41.out.lt
  obtain ⟨gp, hgp⟩ : ∃ gp, gp = w2.heap.size := ⟨_, rfl⟩
  obtain ⟨V2, hV2⟩ : ∃ V, V = w2.alloc (.cells #[.slice ap n2 cp] 55) := ⟨_, rfl⟩
  have b3 : Below w2.heap.size w2 V2 := by rw [hV2]; exact box_below _ _ _
  have HP2 : Holds V2 gp 55 #[.slice ap n2 cp] := by rw [hV2, hgp]; exact Holds.new _ _ _
  have HL3 := Lib.hid (HL2.below b3 HL2.lt)
  have H43 := Lib.hid (H42.below b3 H42.lt)
  have SP3 := Lib.hid ((sp.below b3).mono b3.size)
  have B3 := Lib.hid ((B1.out.trans (b2.mono B1.out.size)).trans (b3.mono (Nat.le_trans B1.out.size b2.size)))
  have k1 := HP2.cell 0
  simp at k1
  have HP3 := Lib.hid HP2
  have hV2' := Lib.hid hV2
  have hgp' := Lib.hid hgp
  clear hm sp b2 b3 HL2 H42 HP2 hV2 hgp HL1 H41 B1 qf
  go_upto_region 5 with (fail)
  rw [← hV2'.out, ← hgp'.out]
  clear hV2' hgp'
  obtain ⟨gv, hgv⟩ : ∃ gv, gv = V2.heap.size := ⟨_, rfl⟩
  have hgv' := Lib.hid hgv
  clear hgv
  go_wp2_with fail
  refine (values64_any ap n2 cp V2).mono ?_
  rintro e V3 ⟨rfl, hV3⟩
  have b4 : Below V2.heap.size V2 V3 := by rw [hV3]; exact box_below _ _ _
  have HV : Holds V3 gv 55 #[.slice ap n2 cp] := by rw [hV3, hgv'.out]; exact Holds.new _ _ _
  have kv := HV.cell 0
  simp at kv
  have q5 := Lib.hid (qs.out gv cp ap V3 kv HV.lt ((SP3.out.below b4).mono b4.size))
  have HL4 := Lib.hid (HL3.out.below b4 HL3.out.lt)
  have H44 := Lib.hid (H43.out.below b4 H43.out.lt)
  have HP4 := Lib.hid (HP3.out.below b4 HP3.out.lt)
  have SP4 := Lib.hid ((SP3.out.below b4).mono b4.size)
  have B4 := Lib.hid (B3.out.trans (b4.mono B3.out.size))
  rw [← hgv'.out]
  clear hgv' hV3 b4 HV kv qs HL3 H43 HP3 SP3 B3 k1
  go_wp2_with fail
  refine q5.out.mono ?_
  rintro e w5 ⟨v5, l', rfl, u1, u2, o5, b5⟩
  have hl' : l'.length = n2 := by rw [u2.length_eq]; exact hpl'.out
  obtain ⟨as5, cs5, rfl, -, ss5⟩ := sees_own o5
  rw [hl'] at o5 ⊢
  have HL5 := HL4.out.below b5 HL4.out.lt
  have H45 := H44.out.below b5 H44.out.lt
  have HP5 := HP4.out.below b5 HP4.out.lt
  have SP5 := (SP4.out.below b5).mono b5.size
  have B5 := B4.out.trans (b5.mono B4.out.size)
  obtain ⟨gs, hgs⟩ : ∃ gs, gs = w5.heap.size := ⟨_, rfl⟩
  obtain ⟨V6, hV6⟩ : ∃ V, V = w5.alloc (.cells #[.slice as5 n2 cs5] 55) := ⟨_, rfl⟩
  obtain ⟨g9, hg9⟩ : ∃ g9, g9 = V6.heap.size := ⟨_, rfl⟩
  obtain ⟨V7, hV7⟩ : ∃ V, V = V6.alloc (.cells #[.slice none 0 0, .slice none 0 0, .slice none 0 0, .slice none 0 0] 28) := ⟨_, rfl⟩
  have b6 : Below w5.heap.size w5 V6 := by rw [hV6]; exact box_below _ _ _
  have b7 : Below V6.heap.size V6 V7 := by rw [hV7]; exact box_below _ _ _
  have b67 : Below w5.heap.size w5 V7 := b6.trans (b7.mono b6.size)
  have HS6 : Holds V6 gs 55 #[.slice as5 n2 cs5] := by rw [hV6, hgs]; exact Holds.new _ _ _
  have H97 : Hid (Holds V7 g9 28 #[.slice none 0 0, .slice none 0 0, .slice none 0 0, .slice none 0 0]) := Lib.hid (by rw [hV7, hg9]; exact Holds.new _ _ _)
  have HS7 := Lib.hid (HS6.below b7 HS6.lt)
  have HL7 := Lib.hid (HL5.below b67 HL5.lt)
  have H47 := Lib.hid (H45.below b67 H45.lt)
  have HP7 := Lib.hid (HP5.below b67 HP5.lt)
  have SP7 := Lib.hid ((SP5.below b67).mono b67.size)
  have hsz57 : w5.heap.size ≤ V7.heap.size := b67.size
  have SS7 : Hid (SeesE [g9] .u64 w5.heap.size V7 as5 l') := Lib.hid ((ss5.below b67).out (by simp; rw [hg9]; exact b6.size))
  have B7 := Lib.hid (B5.trans (b67.mono B5.size))
  have hgs' := Lib.hid hgs
  have hV6' := Lib.hid hV6
  have hg9' := Lib.hid hg9
  have hV7' := Lib.hid hV7
  have hup := Lib.hid u1
  have hpm := Lib.hid u2
  have hll := Lib.hid hl'
  have h9n : w.heap.size ≤ g9 := by rw [hg9]; exact Nat.le_trans B5.size b6.size
  have h4n : w.heap.size ≤ g4 := by rw [hg4'.out]; omega
  have h49 : g4 ≠ g9 := by have := H45.lt; have := b6.size; omega
  have hl9 : gl ≠ g9 := by have := HL5.lt; have := b6.size; omega
  have hs9 : gs ≠ g9 := by have := HS6.lt; omega
  clear hgs hV6 hg9 hV7 u1 u2 hl' b6 b7 b67 HS6 HL5 H45 HP5 SP5 ss5 B5 o5 b5 HL4 H44 HP4 SP4 B4 q5
  go_upto_region 6 with (fail)
  rw [← hV6'.out, ← hgs'.out]
  clear hV6' hgs'
  go_upto_region 7 with (fail)
  rw [← hV7'.out, ← hg9'.out]
  clear hV7' hg9'
  have hlen1 : n1 ≤ 1024 := by have := hm1.out; have := hl1.out; omega
  have qa := Lib.hid (apartAl_any 34 #[.pointer (some ⟨gl, 0, none⟩), .pointer (some ⟨gp, 0, none⟩)] (fun k => hasB l (ps.getD k 0)) V7 a2 n2 c2 A (by omega) (R2.out V7 B7.out) (enters_of Tryz.func34 (by kernel_rfl) rfl)
    (fun W hW k hk => q1.out W gl gp ap cp (R1.out W (B7.out.trans (hW.mono B7.out.size))) (HL7.out.below hW HL7.out.lt) ((SP7.out.below hW).mono hW.size) (HP7.out.below hW HP7.out.lt) k hk (A.getD k al0)))
  clear q1
  go_wp2_with fail
  refine qa.out.mono ?_
  rintro e w8 ⟨v1, v2, rfl, T8⟩
  have b8 := T8.b
  have H98 := H97.out.below b8 H97.out.lt
  have d0 := H98.cell 0
  have d1 := H98.cell 1
  have f0 := H98.free 0
  have f1 := H98.free 1
  simp at d0 d1
  obtain ⟨L1, hL1⟩ : ∃ L, L = partL al0 (fun k => hasB l (ps.getD k 0)) true A n2 := ⟨_, rfl⟩
  obtain ⟨L2, hL2⟩ : ∃ L, L = partL al0 (fun k => hasB l (ps.getD k 0)) false A n2 := ⟨_, rfl⟩
  rw [← hL1, ← hL2] at T8
  obtain ⟨V9, hV9⟩ : ∃ V, V = (w8.setCell ⟨g9, 0, none⟩ v1).setCell ⟨g9, 1, none⟩ v2 := ⟨_, rfl⟩
  have bE : BelowE [g9] w8.heap.size w8 V9 := by rw [hV9]; exact ((BelowE.refl [g9] _ _).setIn (p := ⟨g9, 0, none⟩) (by simp) _).setIn (p := ⟨g9, 1, none⟩) (by simp) _
  have h97 := H97.out.lt
  have O1 := own_belowE T8.o1 bE (fun k hk => by have := (T8.o1.lt k hk).1; simp; omega)
  have O2 := own_belowE T8.o2 bE (fun k hk => by have := (T8.o2.lt k hk).1; simp; omega)
  obtain ⟨x1, y1, rfl, p1, p2, p3⟩ := seesC_own O1
  obtain ⟨x2, y2, rfl, p4, p5, p6⟩ := seesC_own O2
  have r1 : RO alC V9 x1 L1.length y1 L1 := ⟨rfl, p1, p2, p3⟩
  have r2 : RO alC V9 x2 L2.length y2 L2 := ⟨rfl, p4, p5, p6⟩
  have H99 : Hid (Holds V9 g9 28 #[.slice x1 L1.length y1, .slice x2 L2.length y2, .slice none 0 0, .slice none 0 0]) := Lib.hid (by rw [hV9]; have := (H98.set 0 (.slice x1 L1.length y1)).set 1 (.slice x2 L2.length y2); simpa using this)
  have hV9' := Lib.hid hV9
  have HL9 := Lib.hid ((HL7.out.below b8 HL7.out.lt).belowE bE (by have := HL7.out.lt; have := b8.size; omega) (by simp; exact hl9))
  have H49 := Lib.hid ((H47.out.below b8 H47.out.lt).belowE bE (by have := H47.out.lt; have := b8.size; omega) (by simp; exact h49))
  have HS9 := Lib.hid ((HS7.out.below b8 HS7.out.lt).belowE bE (by have := HS7.out.lt; have := b8.size; omega) (by simp; exact hs9))
  have SS9 : Hid (Sees .u64 V9.heap.size V9 as5 l') := Lib.hid (((SS7.out.belowE ((BelowE.of (b8.mono hsz57)).trans (bE.mono (Nat.le_trans hsz57 b8.size)))).sees).mono (Nat.le_trans (Nat.le_trans hsz57 b8.size) bE.size))
  have B9 : Hid (Below w.heap.size w V9) := Lib.hid (by rw [hV9]; exact bl_set (bl_set (B7.out.trans (b8.mono B7.out.size)) (p := ⟨g9, 0, none⟩) h9n _) (p := ⟨g9, 1, none⟩) h9n _)
  have O1' := Lib.hid O1
  have O2' := Lib.hid O2
  have h97' := Lib.hid h97
  have h47' : Hid (g4 < V7.heap.size ∧ V7.heap.size ≤ V9.heap.size) := Lib.hid ⟨H47.out.lt, Nat.le_trans b8.size bE.size⟩
  have hL1' := Lib.hid hL1
  have hL2' := Lib.hid hL2
  clear hV9 bE T8 b8 H98 O1 O2 p1 p2 p3 p4 p5 p6 r1 r2 hL1 hL2 SS7 H97 HL7 H47 HP7 SP7 HS7 qa h97
  go_upto_region 8 with (fail)
  rw [← hV9'.out]
  clear hV9' d0 d1 f0 f1 B7
  have ky := HL9.out.cell 0
  simp at ky
  have qm := Lib.hid (apartMk_any 37 #[.pointer (some ⟨gs, 0, none⟩)] (fun k => decide ((l.getD k mk0).f ∈ l')) V9 a1 n1 c1 l (by omega) (R1.out V9 B9.out) (enters_of Tryz.func37 (by kernel_rfl) rfl)
    (fun W hW k hk => match2_any W as5 n2 cs5 gs l' 55 (by omega) hll.out.symm (fun t j h1 h2 => hup.out t j h1 (by rw [hll.out]; exact h2)) ((SS9.out.below hW).mono hW.size) (HS9.out.below hW HS9.out.lt) (k : Int) (l.getD k mk0).f (l.getD k mk0).note))
  go_wp2_with fail
  refine qm.out.mono ?_
  rintro e w10 ⟨v3, v4, rfl, T10⟩
  have b10 := T10.b
  have H910 := H99.out.below b10 H99.out.lt
  have d2 := H910.cell 2
  have d3 := H910.cell 3
  have f2 := H910.free 2
  have f3 := H910.free 3
  simp at d2 d3
  obtain ⟨L3, hL3⟩ : ∃ L, L = partL mk0 (fun k => decide ((l.getD k mk0).f ∈ l')) true l n1 := ⟨_, rfl⟩
  obtain ⟨L4, hL4⟩ : ∃ L, L = partL mk0 (fun k => decide ((l.getD k mk0).f ∈ l')) false l n1 := ⟨_, rfl⟩
  rw [← hL3, ← hL4] at T10
  obtain ⟨V11, hV11⟩ : ∃ V, V = (w10.setCell ⟨g9, 2, none⟩ v3).setCell ⟨g9, 3, none⟩ v4 := ⟨_, rfl⟩
  have bF : BelowE [g9] w10.heap.size w10 V11 := by rw [hV11]; exact ((BelowE.refl [g9] _ _).setIn (p := ⟨g9, 2, none⟩) (by simp) _).setIn (p := ⟨g9, 3, none⟩) (by simp) _
  have h99 := H99.out.lt
  have O3 := own_belowE T10.o1 bF (fun k hk => by have := (T10.o1.lt k hk).1; simp; omega)
  have O4 := own_belowE T10.o2 bF (fun k hk => by have := (T10.o2.lt k hk).1; simp; omega)
  have bG : BelowE [g9] V9.heap.size V9 V11 := (BelowE.of b10).trans (bF.mono b10.size)
  have O1f := own_belowE O1'.out bG (fun k hk => by have := (O1'.out.lt k hk).1; have := h97'.out; simp; omega)
  have O2f := own_belowE O2'.out bG (fun k hk => by have := (O2'.out.lt k hk).1; have := h97'.out; simp; omega)
  obtain ⟨x3, y3, rfl, p1, p2, p3⟩ := seesC_own O3
  obtain ⟨x4, y4, rfl, p4, p5, p6⟩ := seesC_own O4
  obtain ⟨z1, t1, e1, s1, s2, s3⟩ := seesC_own O1f
  obtain ⟨z2, t2, e2, s4, s5, s6⟩ := seesC_own O2f
  injection e1 with e1 e1n e1c
  injection e2 with e2 e2n e2c
  subst e1 e1c e2 e2c
  have OW := Lib.hid (And.intro O1f (And.intro O2f (And.intro O3 O4)))
  have hD : Hid (d = ⟨L1, L2, L3, L4⟩) := Lib.hid (by
    rw [hd'.out]
    unfold splitD
    have e3 : (fun k => decide ((l.getD k mk0).f ∈ l')) = (fun k => decide ((l.getD k mk0).f ∈ ps)) := by
      funext k
      exact decide_eq_decide.2 (hpm.out.mem_iff)
    rw [hL1'.out, hL2'.out, hL3, hL4, e3, ← hm1.out, ← hm2.out])
  have H911 : Hid (Holds V11 g9 28 #[.slice x1 L1.length y1, .slice x2 L2.length y2, .slice x3 L3.length y3, .slice x4 L4.length y4]) := Lib.hid (by rw [hV11]; have := (H910.set 2 (.slice x3 L3.length y3)).set 3 (.slice x4 L4.length y4); simpa using this)
  have H411 : Holds V11 g4 28 #[.slice none 0 0, .slice none 0 0, .slice none 0 0, .slice none 0 0] := (H49.out.belowE bG H49.out.lt (by simp; exact h49))
  have B11 : Hid (Below w.heap.size w V11) := Lib.hid (by rw [hV11]; exact bl_set (bl_set (B9.out.trans (b10.mono B9.out.size)) (p := ⟨g9, 2, none⟩) h9n _) (p := ⟨g9, 3, none⟩) h9n _)
  have hV11' := Lib.hid hV11
  clear hV11 bF h99 O3 O4 bG O1f O2f p1 p2 p3 p4 p5 p6 s1 s2 s3 s4 s5 s6 T10 b10 H910 hL3 hL4 H99 HL9 H49 HS9 SS9 B9 O1' O2' qm ky e1n e2n
  go_upto_region 9 with (fail)
  rw [← hV11'.out]
  clear hV11' d2 d3 f2 f3
  have k0 := H911.out.cell 0
  have k1 := H911.out.cell 1
  have k2 := H911.out.cell 2
  have k3 := H911.out.cell 3
  simp at k0 k1 k2 k3
  go_wp2_with
    (refine wpList_store_row rfl 28 (.tmp 4) (.tmp 37) rfl g4 #[.slice x1 L1.length y1, .slice x2 L2.length y2, .slice x3 L3.length y3, .slice x4 L4.length y4] rfl rfl 28 #[.slice none 0 0, .slice none 0 0, .slice none 0 0, .slice none 0 0] H411 (by rw [info_sp]; rfl) rfl (by simp [Value.oneCell']) ?_
     have bS : Hid (Below w.heap.size w (V11.setRow g4 #[.slice x1 L1.length y1, .slice x2 L2.length y2, .slice x3 L3.length y3, .slice x4 L4.length y4])) := Lib.hid (mk_setRow B11.out h4n _)
     have HSf : Hid (Holds (V11.setRow g4 #[.slice x1 L1.length y1, .slice x2 L2.length y2, .slice x3 L3.length y3, .slice x4 L4.length y4]) g4 28 #[.slice x1 L1.length y1, .slice x2 L2.length y2, .slice x3 L3.length y3, .slice x4 L4.length y4]) := Lib.hid (setRow_heap V11 g4 #[.slice none 0 0, .slice none 0 0, .slice none 0 0, .slice none 0 0] _ 28 (0, 0) H411)
     have bSE : Hid (BelowE [g4] V11.heap.size V11 (V11.setRow g4 #[.slice x1 L1.length y1, .slice x2 L2.length y2, .slice x3 L3.length y3, .slice x4 L4.length y4])) := Lib.hid ⟨rfl, rfl, rfl, by simp, fun k _ hk => setRow_other V11 g4 k _ (by simpa using hk)⟩
     generalize V11.setRow g4 #[.slice x1 L1.length y1, .slice x2 L2.length y2, .slice x3 L3.length y3, .slice x4 L4.length y4] = V12 at *)
  refine sp_ret2 HSf.out ⟨⟨x1, L1.length, y1, x2, L2.length, y2, x3, L3.length, y3, x4, L4.length, y4⟩, rfl, ?_, bS.out⟩ _ _ 4 5 rfl rfl rfl rfl
  obtain ⟨w1', w2', w3', w4'⟩ := OW.out
  have F1 := own_belowE w1' bSE.out (fun k hk => by have := (w1'.lt k hk).1; have := h47'.out; simp; omega)
  have F2 := own_belowE w2' bSE.out (fun k hk => by have := (w2'.lt k hk).1; have := h47'.out; simp; omega)
  have F3 := own_belowE w3' bSE.out (fun k hk => by have := (w3'.lt k hk).1; have := h47'.out; simp; omega)
  have F4 := own_belowE w4' bSE.out (fun k hk => by have := (w4'.lt k hk).1; have := h47'.out; simp; omega)
  obtain ⟨z1, t1, e1, s1, s2, s3⟩ := seesC_own F1
  obtain ⟨z2, t2, e2, s4, s5, s6⟩ := seesC_own F2
  obtain ⟨z3, t3, e3, s7, s8, s9⟩ := seesC_own F3
  obtain ⟨z4, t4, e4, s10, s11, s12⟩ := seesC_own F4
  injection e1 with e1 e1n e1c
  injection e2 with e2 e2n e2c
  injection e3 with e3 e3n e3c
  injection e4 with e4 e4n e4c
  subst e1 e1c e2 e2c e3 e3c e4 e4c
  rw [hD.out]
  exact ⟨⟨rfl, s1, s2, s3⟩, ⟨rfl, s4, s5, s6⟩, ⟨rfl, s7, s8, s9⟩, ⟨rfl, s10, s11, s12⟩⟩
set_option maxRecDepth 100000 in
set_option maxHeartbeats 4000000 in
theorem bmatch_bad (w : World) (a1 a2 : Option Addr) (n1 n2 c1 c2 : Nat) (l : List MkD) (hb : baseB l = false) (h1 : RO mkC w a1 n1 c1 l) :
    Calls Tryz.prog 11 #[.slice a1 n1 c1, .slice a2 n2 c2] w (SpG w ⟨[], [], [], []⟩ 210) := by
  have q0 := Lib.hid (fun W hW => by have := bbase_any W a1 n1 c1 l (h1.below hW); rw [bchk_no hb] at this; exact this)
  obtain ⟨gl, hgl⟩ : ∃ gl, gl = w.heap.size := ⟨_, rfl⟩
  obtain ⟨g4, hg4⟩ : ∃ g4, g4 = w.heap.size + 1 := ⟨_, rfl⟩
  obtain ⟨V0, hV0⟩ : ∃ V, V = (w.alloc (.cells #[.slice a1 n1 c1] 22)).alloc (.cells #[.slice none 0 0, .slice none 0 0, .slice none 0 0, .slice none 0 0] 28) := ⟨_, rfl⟩
  have b0 : Below w.heap.size w V0 := by rw [hV0]; exact box2_below _ _ _ _ _
  have HL0 : Holds V0 gl 22 #[.slice a1 n1 c1] := by rw [hV0, hgl]; exact (Holds.new _ _ _).alloc _
  have H40 : Holds V0 g4 28 #[.slice none 0 0, .slice none 0 0, .slice none 0 0, .slice none 0 0] := by rw [hV0, hg4]; have := Holds.new (w.alloc (.cells #[.slice a1 n1 c1] 22)) 28 #[.slice none 0 0, .slice none 0 0, .slice none 0 0, .slice none 0 0]; rwa [World.size_alloc] at this
  have k0 := HL0.cell 0
  simp at k0
  have h4n : w.heap.size ≤ g4 := by omega
  have hV0' := Lib.hid hV0
  have hgl' := Lib.hid hgl
  have hg4' := Lib.hid hg4
  have H40' := Lib.hid H40
  have B0 := Lib.hid b0
  clear hb h1 hgl hg4 hV0 HL0 H40 b0
  go_enter Tryz.func11, Tryz.ntmps11
  go_upto_region 1 with (fail)
  rw [← hV0'.out, ← hg4'.out, ← hgl'.out]
  go_wp2_with fail
  refine (q0.out V0 B0.out).mono ?_
  rintro e w1 ⟨rfl, b1⟩
  have H41 := H40'.out.below b1 H40'.out.lt
  have B1 := Lib.hid (B0.out.trans (b1.mono B0.out.size))
  clear b1 H40' B0 q0 k0
  go_wp2_with
    (refine wpList_store_row rfl 28 (.tmp 4) (.tmp 14) rfl g4 #[.slice none 0 0, .slice none 0 0, .slice none 0 0, .slice none 0 0] rfl rfl 28 #[.slice none 0 0, .slice none 0 0, .slice none 0 0, .slice none 0 0] H41 (by rw [info_sp]; rfl) rfl (by simp [Value.oneCell']) ?_
     have bS : Hid (Below w.heap.size w (w1.setRow g4 #[.slice none 0 0, .slice none 0 0, .slice none 0 0, .slice none 0 0])) := Lib.hid (mk_setRow B1.out h4n _)
     have HSf : Hid (Holds (w1.setRow g4 #[.slice none 0 0, .slice none 0 0, .slice none 0 0, .slice none 0 0]) g4 28 #[.slice none 0 0, .slice none 0 0, .slice none 0 0, .slice none 0 0]) := Lib.hid (setRow_heap w1 g4 #[.slice none 0 0, .slice none 0 0, .slice none 0 0, .slice none 0 0] _ 28 (0, 0) H41)
     generalize w1.setRow g4 #[.slice none 0 0, .slice none 0 0, .slice none 0 0, .slice none 0 0] = V12 at *)
  exact sp_ret2 HSf.out ⟨⟨none, 0, 0, none, 0, 0, none, 0, 0, none, 0, 0⟩, rfl, ⟨RO.nil _, RO.nil _, RO.nil _, RO.nil _⟩, bS.out⟩ _ _ 4 5 rfl rfl rfl rfl
end Go.Proofs.YtpchncpcckfghaaGreat
namespace Go.Proofs.YtpchncpcckfghaaGreat
open Go.RowKit
set_option linter.unusedVariables false
set_option linter.unusedSimpArgs false
set_option maxRecDepth 100000 in
set_option maxHeartbeats 4000000 in
theorem compact_none (w : World) (a : Option Addr) (n c : Nat) (l : List Int) (hl : n = l.length) (hm : n ≤ 1000000) (hs : ∀ i, i + 1 < n → l.getD (i + 1) 0 ≠ l.getD i 0) (h : Sees .u64 w.heap.size w a l) :
    Calls Tryz.prog 46 #[.slice a n c] w fun e w' => e = .returned (.slice a n c) ∧ ∃ m, w' = w.drewN m := by
  have hl' := Lib.hid hl
  have hS := Lib.hid h
  have hne := Lib.hid hs
  by_cases h2 : n < 2
  · have h2z : (n : Int) < 2 := by omega
    clear hl hs h
    go_enter Tryz.func46, Tryz.ntmps46
    go_wp2
    exact bodyPost_ret (results_tmp rfl _ _ _) rfl ⟨rfl, 0, rfl⟩
  · have h2z : ¬ (n : Int) < 2 := by omega
    clear hl hs h
    go_enter Tryz.func46, Tryz.ntmps46
    go_wp2
    go_loopw [3] (fun x wr => ∃ k m : Nat, 1 ≤ k ∧ k ≤ n ∧ x = .int .i64 k ∧ wr = w.drewN m) (fun x _ => n - (intOf x).toNat)
    case atStart => exact ⟨1, 0, by omega, by omega, rfl, rfl⟩
    case round =>
      obtain ⟨k, m, hk1, hk, rfl, rfl⟩ := hrel
      by_cases hlt : k < n
      · have hki : (k : Int) < (n : Int) := by omega
        obtain ⟨q, rfl⟩ : ∃ q, k = q + 1 := ⟨k - 1, by omega⟩
        have hlq : q + 1 < l.length := by rw [← hl'.out]; exact hlt
        obtain ⟨b, off, rfl, hb, x0, x1⟩ : ∃ b off, a = some ⟨b, off, none⟩ ∧ b < w.heap.size ∧ w.cell? ⟨b, off + (q + 1), none⟩ = some (.int .u64 (l.getD (q + 1) 0)) ∧ w.cell? ⟨b, off + q, none⟩ = some (.int .u64 (l.getD q 0)) := by
          rcases hS.out with e | ⟨b, off, e, hb, hc⟩
          · rw [e] at hlq; simp at hlq
          · exact ⟨b, off, e, hb, hc _ hlq, hc _ (by omega)⟩
        have hd := hne.out q hlt
        generalize l.getD (q + 1) 0 = y at *
        generalize l.getD q 0 = x at *
        have hdb : (y == x) = false := by simpa using hd
        have hq1 : ((q + 1 : Nat) : Int) - 1 = (q : Int) := by omega
        go_wp2
        go_quiet (fail)
        go_wp2
        go_roundw
        case rel => exact ⟨q + 2, m + nq, by omega, by omega, by go_num, by simp [World.drewN, Nat.add_assoc]⟩
        case measure => simp [intOf]; omega
      · have hki : ¬ (k : Int) < (n : Int) := by omega
        go_wp2
        exact bodyPost_ret (results_tmp rfl _ _ _) rfl ⟨rfl, m, rfl⟩
theorem up_strict {l : List Int} (hu : upL l) (hn : l.Nodup) : ∀ i, i + 1 < l.length → l.getD (i + 1) 0 ≠ l.getD i 0 := fun i hi e => by
  have h1 : l.getD (i + 1) 0 = l[i + 1] := by simp [List.getD, hi]
  have h2 : l.getD i 0 = l[i] := by simp [List.getD, show i < l.length by omega]
  rw [h1, h2] at e
  exact (List.pairwise_iff_getElem.1 hn) i (i + 1) (by omega) hi (by omega) e.symm
def mkL (s : ByteArray) (l : List Int) : List MkD := l.map fun f => ⟨f, s⟩
theorem mkL_next (s : ByteArray) {l : List Int} {k : Nat} (hk : k < l.length) : mkL s (l.take (k + 1)) = mkL s (l.take k) ++ [⟨l.getD k 0, s⟩] := by
  have e : l.take (k + 1) = l.take k ++ [l.getD k 0] := by rw [List.take_add_one]; simp [List.getD, hk]
  unfold mkL
  rw [e, List.map_append]
  rfl
def OfG (w : World) (ps : List Int) (s : ByteArray) (e : Ending) (w' : World) : Prop := ∃ l' a c, upL l' ∧ l'.Perm ps ∧ e = .returned (.tuple #[.slice a (mkL s l').length c, .int .i64 0]) ∧ RO mkC w' a (mkL s l').length c (mkL s l') ∧ Below w.heap.size w w'
theorem base_one {s : ByteArray} (h : noteB s = true) : baseB [⟨0, s⟩] = true := by
  unfold baseB
  simp [okAt, h]
set_option maxRecDepth 100000 in
set_option maxHeartbeats 8000000 in
theorem bof_ok (w : World) (a2 : Option Addr) (n2 c2 : Nat) (A : List AlD) (s : ByteArray) (hs : noteB s = true) (h2 : RO alC w a2 n2 c2 A) (hW : ∀ s ∈ A, alW s) (hS : ∀ s ∈ A, smallA s) (hn : n2 ≤ 100) (hP : PdqOK n2) (hd : (printsL A n2).Nodup) :
    Calls Tryz.prog 23 #[.slice a2 n2 c2, .string s] w (OfG w (printsL A n2) s) := by
  have hpl := prints_len A n2
  obtain ⟨W1, hW1⟩ : ∃ V, V = w.alloc (.cells #[.int .u64 0, .string s] 40) := ⟨_, rfl⟩
  have b1 : Below w.heap.size w W1 := by rw [hW1]; exact box_below _ _ _
  have hr : RO mkC W1 (some ⟨w.heap.size, 0, none⟩) 1 1 [⟨0, s⟩] := ⟨rfl, Nat.le_refl _, by simp [maxLen], by rw [hW1]; exact seesC_lit w 40 #[.int .u64 0, .string s]⟩
  have q0 := bbase_any W1 _ 1 1 [⟨0, s⟩] hr
  rw [bchk_yes (base_one hs)] at q0
  have Q0 := Lib.hid q0
  have qf := Lib.hid (fun W hB => fofs_any A a2 n2 c2 W (h2.below hB) hW hS hn)
  have hp' : Hid (printsL A n2 = (List.range n2).map (fun i => oneK (keyA (A.getD i al0)) (rankA A i))) := Lib.hid rfl
  rw [← hp'.out] at qf
  have qs := Lib.hid (fun base v W ho => usort_any base n2 v (printsL A n2) hpl.symm (by omega) hP W ho)
  generalize printsL A n2 = ps at *
  have hpl' := Lib.hid hpl
  have hd' := Lib.hid hd
  have hW1' := Lib.hid hW1
  have B1 := Lib.hid b1
  have hnz : (n2 : Int) ≤ 100 := by omega
  clear hW hS hP hs h2 hr q0 hW1 b1 hpl hd
  go_enter Tryz.func23, Tryz.ntmps23
  go_wp2_with fail
  rw [← hW1'.out]
  clear hW1'
  refine Q0.out.mono ?_
  rintro e w2 ⟨rfl, b2⟩
  have B2 := Lib.hid (B1.out.trans (b2.mono B1.out.size))
  clear b2 B1 Q0
  go_wp2_with fail
  refine (qf.out w2 B2.out).mono ?_
  rintro e w3 ⟨v3, rfl, o3, b3⟩
  rw [hpl'.out] at o3
  have Qs := Lib.hid (qs.out w2.heap.size v3 w3 o3)
  have B3 := Lib.hid (B2.out.trans (b3.mono B2.out.size))
  have Z3 := Lib.hid (Nat.le_trans B2.out.size (Nat.le_refl _))
  clear o3 b3 qf qs
  go_wp2_with fail
  refine Qs.out.mono ?_
  rintro e w4 ⟨rfl, l', u1, u2, o4, b4⟩
  obtain ⟨ap, cp, rfl, hnl, hse⟩ := sees_own o4
  have hl2 : l'.length = n2 := hnl.symm
  rw [hl2] at o4 ⊢
  have qc := Lib.hid (compact_none w4 ap n2 cp l' hl2.symm (by omega) (fun i hi => up_strict u1 (u2.symm.nodup hd'.out) i (by rw [hl2]; exact hi)) hse)
  have B4 := Lib.hid (B3.out.trans (b4.mono B2.out.size))
  have SE := Lib.hid hse
  have U := Lib.hid (And.intro u1 u2)
  have HL := Lib.hid hl2
  clear o4 hnl hse b4 u1 u2 hl2 Qs B3 Z3 B2
  go_wp2_with fail
  refine qc.out.mono ?_
  rintro e w5 ⟨rfl, m5, rfl⟩
  have SE5 : Hid (Sees .u64 (w4.drewN m5).heap.size (w4.drewN m5) ap l') := Lib.hid (SE.out.drewN m5)
  have B5 : Hid (Below w.heap.size w (w4.drewN m5)) := Lib.hid (Below.drewN B4.out m5)
  clear SE B4 qc
  generalize w4.drewN m5 = w6 at *
  have O6 := Lib.hid (show w6.ownsRow w6.heap.size 40 2 (.slice none 0 0) (mkL s (l'.take 0)).length (mkcells (mkL s (l'.take 0))) from own_nil _ _ _ _)
  go_wp2
  go_loopw [8, 28] (fun v x wr => ∃ k : Nat, k ≤ n2 ∧ x = .int .i64 k ∧ Hid (wr.ownsRow w6.heap.size 40 2 v (mkL s (l'.take k)).length (mkcells (mkL s (l'.take k)))) ∧ Hid (Below w6.heap.size w6 wr)) (fun _ x _ => n2 - (intOf x).toNat)
  case atStart => exact ⟨0, Nat.zero_le _, rfl, O6, Lib.hid (Below.refl _ _)⟩
  case round =>
    clear O6
    obtain ⟨k, hk, rfl, hO, hB⟩ := hrel
    generalize wr = g0 at *
    by_cases hlt : k < n2
    · have hki : (k : Int) < (n2 : Int) := by omega
      have hkl : k < l'.length := by rw [HL.out]; exact hlt
      obtain ⟨b, off, rfl, hb, x0⟩ : ∃ b off, ap = some ⟨b, off, none⟩ ∧ b < w6.heap.size ∧ g0.cell? ⟨b, off + k, none⟩ = some (.int .u64 (l'.getD k 0)) := by
        rcases SE5.out with e | ⟨b, off, e, hb, hc⟩
        · rw [e] at hkl; simp at hkl
        · exact ⟨b, off, e, hb, (hB.out.cell (p := ⟨b, off + k, none⟩) hb).trans (hc k hkl)⟩
      have hN := Lib.hid (mkL_next s hkl)
      have hc : (mkL s (l'.take k)).length ≤ 1000000 := by simp [mkL]; omega
      generalize l'.getD k 0 = f at *
      generalize mkL s (l'.take k) = L at *
      clear hkl
      go_wp2_with (at_builtin; go_loud (refine wpList_append_mk g0 rfl (.tmp 32) (.tmp 36) rfl w6 _ L.length L hO.out hB.out ⟨f, s⟩ rfl _ rfl rfl hc ?_); intro v2 g2 o2 b2; have O2 := Lib.hid o2; have B2 := Lib.hid b2; clear o2 b2 hO hB)
      go_roundw
      case rel => exact ⟨k + 1, by omega, by go_num, Lib.hid (by have := O2.out; rw [hN.out, List.length_append]; exact this), B2⟩
      case measure => simp [intOf]; omega
    · have hki : ¬ (k : Int) < (n2 : Int) := by omega
      have ht : l'.take k = l' := List.take_of_length_le (by have := HL.out; omega)
      rw [ht] at hO
      obtain ⟨a3, c3, rfl, hro⟩ := mro_own hO.out
      have R3 := Lib.hid hro
      clear hO hro ht
      go_wp2
      refine bodyPost_ret (results_tmp2 rfl _ _ _) rfl ?_
      exact ⟨l', a3, c3, U.out.1, U.out.2, rfl, R3.out, B5.out.trans (hB.out.mono B5.out.size)⟩
end Go.Proofs.YtpchncpcckfghaaGreat
namespace Go.Proofs.YtpchncpcckfghaaGreat
open Go.RowKit
set_option linter.unusedVariables false
set_option linter.unusedSimpArgs false
def bvA : AlD := ⟨1, 1, ⟨#[102]⟩, ⟨#[97, 46, 103, 111]⟩, 9, ⟨#[120, 32, 60, 61, 32, 48]⟩⟩
def bvB : AlD := ⟨1, 1, ⟨#[102]⟩, ⟨#[97, 46, 103, 111]⟩, 3, ⟨#[120, 32, 60, 61, 32, 48]⟩⟩
theorem bv_key : keyA bvA = keyA bvB := rfl
theorem bv_cmp1 : cmpA bvA bvB = 1 := by decide +kernel
theorem bv_cmp2 : cmpA bvB bvA = -1 := by decide +kernel
theorem bv_rank0 : rankA [bvA, bvB] 0 = 1 := by
  unfold rankA rankL
  have e : List.range [bvA, bvB].length = [0, 1] := rfl
  rw [e]
  have s0 : aheadB cmpA [bvA, bvB] al0 0 0 = false := ahead_self cmA _ _ _
  have s1 : aheadB cmpA [bvA, bvB] al0 1 0 = true := by unfold aheadB; rw [show [bvA, bvB].getD 1 al0 = bvB from rfl, show [bvA, bvB].getD 0 al0 = bvA from rfl, bv_cmp2]; rfl
  have k1 : keyA ([bvA, bvB].getD 1 al0) = keyA ([bvA, bvB].getD 0 al0) := bv_key.symm
  simp only [List.countP_cons, List.countP_nil, s0, s1, Bool.false_and, Bool.true_and]
  rw [decide_eq_true k1]
  rfl
theorem bv_rank1 : rankA [bvA, bvB] 1 = 0 := by
  unfold rankA rankL
  have e : List.range [bvA, bvB].length = [0, 1] := rfl
  rw [e]
  have s0 : aheadB cmpA [bvA, bvB] al0 1 1 = false := ahead_self cmA _ _ _
  have s1 : aheadB cmpA [bvA, bvB] al0 0 1 = false := by unfold aheadB; rw [show [bvA, bvB].getD 1 al0 = bvB from rfl, show [bvA, bvB].getD 0 al0 = bvA from rfl, bv_cmp1]; rfl
  simp only [List.countP_cons, List.countP_nil, s0, s1, Bool.false_and]
  rfl
theorem bv_prints : printsL [bvA, bvB] 2 = [oneK (keyA bvA) 1, oneK (keyA bvA) 0] := by
  unfold printsL
  rw [show List.range 2 = [0, 1] from rfl]
  simp only [List.map_cons, List.map_nil, bv_rank0, bv_rank1]
  rw [show [bvA, bvB].getD 1 al0 = bvB from rfl, show [bvA, bvB].getD 0 al0 = bvA from rfl, bv_key]
theorem bv_ne (k : List Int) : oneK k 1 ≠ oneK k 0 := by
  intro h
  unfold oneK at h
  rw [leb_small (by omega), leb_small (by omega)] at h
  have := fstep_inj (t := fsum fstart k) (x := 1) (y := 0) (fsum_in fstart_in k) (by unfold InU; omega) (by unfold InU; omega) h
  omega
theorem bv_w : ∀ s ∈ [bvA, bvB], alW s := by
  intro s hs
  simp at hs
  rcases hs with rfl | rfl <;> (unfold alW; decide)
theorem bv_s : ∀ s ∈ [bvA, bvB], smallA s := by
  intro s hs
  simp at hs
  rcases hs with rfl | rfl <;> (unfold smallA; decide)
theorem bv_split {R0 R1 : Int} (h : R1 ≠ R0) (s : ByteArray) : splitD [⟨R0, s⟩] [bvA, bvB] [R1, R0] = ⟨[bvB], [bvA], [⟨R0, s⟩], []⟩ := by
  unfold splitD
  simp [partL, hasB, mk0, Ne.symm h]
def uA : List MkD := [⟨2, ⟨#[97]⟩⟩]
def uB : List MkD := [⟨1, ⟨#[]⟩⟩, ⟨2, ⟨#[98]⟩⟩]
def uC : List MkD := [⟨1, ⟨#[]⟩⟩]
def uD : List MkD := [⟨2, ⟨#[]⟩⟩, ⟨1, ⟨#[]⟩⟩]
theorem uA_b : baseB uA = true := by decide +kernel
theorem uB_b : baseB uB = true := by decide +kernel
theorem uC_b : baseB uC = true := by decide +kernel
theorem uD_b : baseB uD = false := by decide +kernel
theorem u_merge : mergeL uA uB = uB := by
  rw [merge_union (baseB_rise uA_b) (baseB_rise uB_b)]
  decide +kernel
theorem u_less : lessL uB uC = [⟨2, ⟨#[98]⟩⟩] := by decide +kernel
theorem u_has : hasB uB 2 = true := by decide +kernel
theorem u_look : look uB 2 = some ⟨#[98]⟩ := by decide +kernel
theorem bv_one {R : Int} : baseB [⟨R, ⟨#[107]⟩⟩] = true := by
  unfold baseB
  have : noteB ⟨#[107]⟩ = true := by decide +kernel
  simp [okAt, this]
theorem bv_note : noteB ⟨#[110]⟩ = true := by decide +kernel
end Go.Proofs.YtpchncpcckfghaaGreat
namespace Go.Proofs.YtpchncpcckfghaaGreat
open Go.RowKit
set_option linter.unusedVariables false
set_option linter.unusedSimpArgs false
theorem lit_mk (w : World) (cs : Array Value) (l : List MkD) (n : Nat) (hn : n = l.length) (hm : n ≤ 1000) (h : cs.toList = mkcells l) : RO mkC (w.alloc (.cells cs 40)) (some ⟨w.heap.size, 0, none⟩) n n l := by
  refine ⟨hn, Nat.le_refl _, by simp [maxLen]; omega, ?_⟩
  have := seesC_lit w 40 cs
  rw [h] at this
  exact this
theorem lit_al (w : World) (cs : Array Value) (h : cs.toList = [bvA, bvB].flatMap alC) : RO alC (w.alloc (.cells cs 54)) (some ⟨w.heap.size, 0, none⟩) 2 2 [bvA, bvB] := by
  refine ⟨rfl, Nat.le_refl _, by decide, ?_⟩
  rw [← h]
  exact seesC_lit w _ cs
set_option maxRecDepth 100000 in
set_option maxHeartbeats 8000000 in
theorem blives_any (w : World) : Calls Tryz.prog 10 #[] w (Gives (.bool true) w) := by
  have q4 : Hid (∀ W, Calls Tryz.prog 28 #[.agg #[.int .i64 1, .int .i64 1, .string ⟨#[102]⟩, .string ⟨#[97, 46, 103, 111]⟩, .int .i64 9, .string ⟨#[120, 32, 60, 61, 32, 48]⟩], .int .i64 0] W (Gives (.int .u64 (oneA bvA 0)) W)) := Lib.hid (fun (W : World) => fone_any bvA (by decide) (by unfold smallA; decide) 0 (by decide) W)
  have e4 : oneA bvA 0 = oneK (keyA bvA) 0 := rfl
  rw [e4] at q4
  have hne := bv_ne (keyA bvA)
  have hpr := bv_prints
  have q5 := Lib.hid (fun R W a1 a2 (h1 : RO mkC W a1 1 1 [⟨R, ⟨#[107]⟩⟩]) (h2 : RO alC W a2 2 2 [bvA, bvB]) => bmatch_ok W a1 a2 1 2 1 2 [⟨R, ⟨#[107]⟩⟩] [bvA, bvB] bv_one h1 h2 bv_w bv_s (by omega) (pdqOK_small (by omega)))
  have hnd : ([oneK (keyA bvA) 1, oneK (keyA bvA) 0] : List Int).Nodup := by simp [hne]
  have q6 := Lib.hid (fun W a2 (h2 : RO alC W a2 2 2 [bvA, bvB]) => bof_ok W a2 2 2 [bvA, bvB] ⟨#[110]⟩ bv_note h2 bv_w bv_s (by omega) (pdqOK_small (by omega)) (by rw [bv_prints]; exact hnd))
  rw [hpr] at q5 q6
  have hsp := fun s => bv_split hne s
  have q5' := Lib.hid (fun W a1 a2 h1 h2 => by have := q5.out (oneK (keyA bvA) 0) W a1 a2 h1 h2; rw [hsp] at this; exact this)
  have q7 := Lib.hid (fun W a1 a2 (h1 : RO mkC W a1 1 1 uA) (h2 : RO mkC W a2 2 2 uB) => by have := bunion_ok W a1 a2 1 2 1 2 uA uB (by rw [u_merge]; decide) uA_b uB_b h1 h2; rw [u_merge] at this; exact this)
  have q8 := Lib.hid (fun W a1 a2 c1 (h1 : RO mkC W a1 2 c1 uB) (h2 : RO mkC W a2 1 1 uC) => by have := bless_ok W a1 a2 2 1 c1 1 uB uC uB_b uC_b h1 h2; rw [u_less] at this; exact this)
  have q9 := Lib.hid (fun W a1 c1 (h1 : RO mkC W a1 2 c1 uB) => by have := bFind_yes a1 2 c1 uB 2 uB_b W h1; unfold MkE at this; rw [u_has, u_look, if_pos rfl] at this; exact this)
  have q10 := Lib.hid (fun W a1 (h1 : RO mkC W a1 2 2 uD) => bmatch_bad W a1 none 2 0 2 0 uD uD_b h1)
  have q11 := Lib.hid (fun W a1 a2 c1 (h1 : RO mkC W a1 2 c1 uB) (h2 : RO mkC W a2 2 2 uB) => by have := mkSame_any a1 a2 2 2 c1 2 uB uB W h1 h2; exact this)
  have q12 := Lib.hid (fun W a1 c1 (h1 : RO mkC W a1 2 c1 uB) => bsame_any W a1 a1 2 2 c1 c1 uB uB h1 h1)
  have hsm : sameM uB uB = true := by decide +kernel
  rw [hsm] at q11 q12
  clear q5 hsp hpr hne hnd e4
  generalize oneK (keyA bvA) 0 = R0 at *
  generalize oneK (keyA bvA) 1 = R1 at *
  obtain ⟨ga, hga⟩ : ∃ g, g = w.heap.size := ⟨_, rfl⟩
  obtain ⟨gb, hgb⟩ : ∃ g, g = w.heap.size + 1 := ⟨_, rfl⟩
  go_enter Tryz.func10, Tryz.ntmps10
  go_upto_region 4 with (fail)
  obtain ⟨W3, hW3⟩ : ∃ W, W = (w.alloc (.cells #[.int .i64 1, .int .i64 1, .string ⟨#[102]⟩, .string ⟨#[97, 46, 103, 111]⟩, .int .i64 9, .string ⟨#[120, 32, 60, 61, 32, 48]⟩] 54)).alloc (.cells #[.int .i64 1, .int .i64 1, .string ⟨#[102]⟩, .string ⟨#[97, 46, 103, 111]⟩, .int .i64 3, .string ⟨#[120, 32, 60, 61, 32, 48]⟩] 54) := ⟨_, rfl⟩
  have B3 : Hid (Below w.heap.size w W3) := Lib.hid (by rw [hW3]; exact box2_below _ _ _ _ _)
  have HA3 : Hid (Holds W3 ga 54 #[.int .i64 1, .int .i64 1, .string ⟨#[102]⟩, .string ⟨#[97, 46, 103, 111]⟩, .int .i64 9, .string ⟨#[120, 32, 60, 61, 32, 48]⟩]) := Lib.hid (by rw [hW3, hga]; exact (Holds.new _ _ _).alloc _)
  have HB3 : Hid (Holds W3 gb 54 #[.int .i64 1, .int .i64 1, .string ⟨#[102]⟩, .string ⟨#[97, 46, 103, 111]⟩, .int .i64 3, .string ⟨#[120, 32, 60, 61, 32, 48]⟩]) := Lib.hid (by rw [hW3, hgb]; have := Holds.new (w.alloc (.cells #[.int .i64 1, .int .i64 1, .string ⟨#[102]⟩, .string ⟨#[97, 46, 103, 111]⟩, .int .i64 9, .string ⟨#[120, 32, 60, 61, 32, 48]⟩] 54)) 54 #[.int .i64 1, .int .i64 1, .string ⟨#[102]⟩, .string ⟨#[97, 46, 103, 111]⟩, .int .i64 3, .string ⟨#[120, 32, 60, 61, 32, 48]⟩]; rwa [World.size_alloc] at this)
  rw [← hW3, ← hgb, ← hga]
  clear hW3 hga hgb
  have xa0 := HA3.out.cell 0
  have xb0 := HB3.out.cell 0
  have xa1 := HA3.out.cell 1
  have xb1 := HB3.out.cell 1
  have xa2 := HA3.out.cell 2
  have xb2 := HB3.out.cell 2
  have xa3 := HA3.out.cell 3
  have xb3 := HB3.out.cell 3
  have xa4 := HA3.out.cell 4
  have xb4 := HB3.out.cell 4
  have xa5 := HA3.out.cell 5
  have xb5 := HB3.out.cell 5
  simp at xa0 xb0 xa1 xb1 xa2 xb2 xa3 xb3 xa4 xb4 xa5 xb5
  go_wp2_with fail
  refine (q4.out W3).mono ?_
  rintro e w4 ⟨rfl, b4⟩
  have HA4 := Lib.hid (HA3.out.below b4 HA3.out.lt)
  have HB4 := Lib.hid (HB3.out.below b4 HB3.out.lt)
  have B4 := Lib.hid (B3.out.trans (b4.mono B3.out.size))
  have HA4b := Lib.hid (HA4.out.alloc (.cells #[.int .u64 R0, .string ⟨#[107]⟩] 40))
  have HB4b := Lib.hid (HB4.out.alloc (.cells #[.int .u64 R0, .string ⟨#[107]⟩] 40))
  obtain ⟨W5, hW5⟩ : ∃ W, W = (w4.alloc (.cells #[.int .u64 R0, .string ⟨#[107]⟩] 40)).alloc (.cells #[.int .i64 1, .int .i64 1, .string ⟨#[102]⟩, .string ⟨#[97, 46, 103, 111]⟩, .int .i64 9, .string ⟨#[120, 32, 60, 61, 32, 48]⟩, .int .i64 1, .int .i64 1, .string ⟨#[102]⟩, .string ⟨#[97, 46, 103, 111]⟩, .int .i64 3, .string ⟨#[120, 32, 60, 61, 32, 48]⟩] 54) := ⟨_, rfl⟩
  have b5 : Below w4.heap.size w4 W5 := by rw [hW5]; exact box2_below _ _ _ _ _
  have r5a : RO mkC W5 (some ⟨w4.heap.size, 0, none⟩) 1 1 [⟨R0, ⟨#[107]⟩⟩] := by rw [hW5]; exact (lit_mk w4 _ _ 1 rfl (by omega) rfl).below ((Below.refl _ _).alloc (Nat.le_refl _) _)
  have r5b : RO alC W5 (some ⟨w4.heap.size + 1, 0, none⟩) 2 2 [bvA, bvB] := by rw [hW5]; have := lit_al (w4.alloc (.cells #[.int .u64 R0, .string ⟨#[107]⟩] 40)) #[.int .i64 1, .int .i64 1, .string ⟨#[102]⟩, .string ⟨#[97, 46, 103, 111]⟩, .int .i64 9, .string ⟨#[120, 32, 60, 61, 32, 48]⟩, .int .i64 1, .int .i64 1, .string ⟨#[102]⟩, .string ⟨#[97, 46, 103, 111]⟩, .int .i64 3, .string ⟨#[120, 32, 60, 61, 32, 48]⟩] rfl; rwa [World.size_alloc] at this
  have Q5 := Lib.hid (q5'.out W5 _ _ r5a r5b)
  have HA5 := Lib.hid (HA4.out.below b5 HA4.out.lt)
  have HB5 := Lib.hid (HB4.out.below b5 HB4.out.lt)
  have B5 := Lib.hid (B4.out.trans (b5.mono B4.out.size))
  have hW5' := Lib.hid hW5
  clear b4 b5 r5a r5b hW5 HA3 HB3 B3 xa0 xb0 xa1 xb1 xa2 xb2 xa3 xb3 xa4 xb4 xa5 xb5 q4 q5'
  have xa0 := HA4b.out.cell 0
  have xb0 := HB4b.out.cell 0
  have xa1 := HA4b.out.cell 1
  have xb1 := HB4b.out.cell 1
  have xa2 := HA4b.out.cell 2
  have xb2 := HB4b.out.cell 2
  have xa3 := HA4b.out.cell 3
  have xb3 := HB4b.out.cell 3
  have xa4 := HA4b.out.cell 4
  have xb4 := HB4b.out.cell 4
  have xa5 := HA4b.out.cell 5
  have xb5 := HB4b.out.cell 5
  simp at xa0 xb0 xa1 xb1 xa2 xb2 xa3 xb3 xa4 xb4 xa5 xb5
  go_wp2_with fail
  rw [← hW5'.out]
  clear hW5'
  refine Q5.out.mono ?_
  rintro e w6 ⟨⟨k1, k1n, k1c, k2, k2n, k2c, k3, k3n, k3c, k4, k4n, k4c⟩, rfl, hR, b6⟩
  unfold SpV.cells
  dsimp only
  have hk1 : k1n = 1 := hR.k.len
  have hk2 : k2n = 1 := hR.f.len
  have hk3 : k3n = 1 := hR.m.len
  have hk4 : k4n = 0 := hR.s.len
  subst hk1 hk2 hk3 hk4
  obtain ⟨V6, hV6⟩ : ∃ W, W = w6.alloc (.cells #[.slice k1 1 k1c, .slice k2 1 k2c, .slice k3 1 k3c, .slice k4 0 k4c] 28) := ⟨_, rfl⟩
  obtain ⟨gs, hgs⟩ : ∃ g, g = w6.heap.size := ⟨_, rfl⟩
  have c6 : Below w6.heap.size w6 V6 := by rw [hV6]; exact box_below _ _ _
  have HS6 := Lib.hid (show Holds V6 gs 28 #[.slice k1 1 k1c, .slice k2 1 k2c, .slice k3 1 k3c, .slice k4 0 k4c] by rw [hV6, hgs]; exact Holds.new _ _ _)
  have HA6 := Lib.hid ((HA5.out.below b6 HA5.out.lt).below c6 (Nat.lt_of_lt_of_le HA5.out.lt b6.size))
  have HB6 := Lib.hid ((HB5.out.below b6 HB5.out.lt).below c6 (Nat.lt_of_lt_of_le HB5.out.lt b6.size))
  have B6 := Lib.hid ((B5.out.trans (b6.mono B5.out.size)).trans (c6.mono (Nat.le_trans B5.out.size b6.size)))
  have RK6 := Lib.hid (hR.k.below c6)
  have RF6 := Lib.hid (hR.f.below c6)
  have hV6' := Lib.hid hV6
  have hgs' := Lib.hid hgs
  clear b6 c6 hV6 hgs hR HA4b HB4b HA4 HB4 B4 HA5 HB5 B5 xa0 xb0 xa1 xb1 xa2 xb2 xa3 xb3 xa4 xb4 xa5 xb5 Q5
  go_upto_region 6 with (fail)
  rw [← hV6'.out, ← hgs'.out]
  clear hV6' hgs'
  have xa0 := HA6.out.cell 0
  have xb0 := HB6.out.cell 0
  have xa1 := HA6.out.cell 1
  have xb1 := HB6.out.cell 1
  have xa2 := HA6.out.cell 2
  have xb2 := HB6.out.cell 2
  have xa3 := HA6.out.cell 3
  have xb3 := HB6.out.cell 3
  have xa4 := HA6.out.cell 4
  have xb4 := HB6.out.cell 4
  have xa5 := HA6.out.cell 5
  have xb5 := HB6.out.cell 5
  simp at xa0 xb0 xa1 xb1 xa2 xb2 xa3 xb3 xa4 xb4 xa5 xb5
  obtain ⟨W7, hW7⟩ : ∃ W, W = V6.alloc (.cells #[.int .i64 1, .int .i64 1, .string ⟨#[102]⟩, .string ⟨#[97, 46, 103, 111]⟩, .int .i64 9, .string ⟨#[120, 32, 60, 61, 32, 48]⟩, .int .i64 1, .int .i64 1, .string ⟨#[102]⟩, .string ⟨#[97, 46, 103, 111]⟩, .int .i64 3, .string ⟨#[120, 32, 60, 61, 32, 48]⟩] 54) := ⟨_, rfl⟩
  have b7 : Below V6.heap.size V6 W7 := by rw [hW7]; exact box_below _ _ _
  have r7 : RO alC W7 (some ⟨V6.heap.size, 0, none⟩) 2 2 [bvA, bvB] := by rw [hW7]; exact lit_al V6 #[.int .i64 1, .int .i64 1, .string ⟨#[102]⟩, .string ⟨#[97, 46, 103, 111]⟩, .int .i64 9, .string ⟨#[120, 32, 60, 61, 32, 48]⟩, .int .i64 1, .int .i64 1, .string ⟨#[102]⟩, .string ⟨#[97, 46, 103, 111]⟩, .int .i64 3, .string ⟨#[120, 32, 60, 61, 32, 48]⟩] rfl
  have Q6 := Lib.hid (q6.out W7 _ r7)
  have hW7' := Lib.hid hW7
  have b7' := Lib.hid b7
  clear hW7 b7 r7 q6
  go_wp2_with fail
  rw [← hW7'.out]
  clear hW7'
  refine Q6.out.mono ?_
  rintro e w8 ⟨l8, a8, c8, -, hp8, rfl, -, b8⟩
  have hl8 : (mkL ⟨#[110]⟩ l8).length = 2 := by unfold mkL; rw [List.length_map, hp8.length_eq]; rfl
  rw [hl8]
  have d8 := b7'.out.trans (b8.mono b7'.out.size)
  have HA8 := Lib.hid (HA6.out.below d8 HA6.out.lt)
  have HB8 := Lib.hid (HB6.out.below d8 HB6.out.lt)
  have HS8 := Lib.hid (HS6.out.below d8 HS6.out.lt)
  have RK8 := Lib.hid (RK6.out.below d8)
  have RF8 := Lib.hid (RF6.out.below d8)
  have B8 := Lib.hid (B6.out.trans (d8.mono B6.out.size))
  clear hp8 hl8 b8 d8 b7' Q6 HA6 HB6 HS6 RK6 RF6 B6 xa0 xb0 xa1 xb1 xa2 xb2 xa3 xb3 xa4 xb4 xa5 xb5
  obtain ⟨W9, hW9⟩ : ∃ W, W = (w8.alloc (.cells #[.int .u64 2, .string ⟨#[97]⟩] 40)).alloc (.cells #[.int .u64 1, .string ⟨#[]⟩, .int .u64 2, .string ⟨#[98]⟩] 40) := ⟨_, rfl⟩
  have b9 : Below w8.heap.size w8 W9 := by rw [hW9]; exact box2_below _ _ _ _ _
  have r9a : RO mkC W9 (some ⟨w8.heap.size, 0, none⟩) 1 1 uA := by rw [hW9]; exact (lit_mk w8 _ uA 1 rfl (by omega) rfl).below ((Below.refl _ _).alloc (Nat.le_refl _) _)
  have r9b : RO mkC W9 (some ⟨w8.heap.size + 1, 0, none⟩) 2 2 uB := by rw [hW9]; have := lit_mk (w8.alloc (.cells #[.int .u64 2, .string ⟨#[97]⟩] 40)) #[.int .u64 1, .string ⟨#[]⟩, .int .u64 2, .string ⟨#[98]⟩] uB 2 rfl (by omega) rfl; rwa [World.size_alloc] at this
  have Q7 := Lib.hid (q7.out W9 _ _ r9a r9b)
  have hW9' := Lib.hid hW9
  have b9' := Lib.hid b9
  clear hW9 b9 r9a r9b q7
  go_wp2_with fail
  rw [← hW9'.out]
  clear hW9'
  refine Q7.out.mono ?_
  rintro e w10 ⟨a9, c9, rfl, r10, b10⟩
  rw [show uB.length = 2 from rfl] at r10 ⊢
  obtain ⟨W11, hW11⟩ : ∃ W, W = w10.alloc (.cells #[.int .u64 1, .string ⟨#[]⟩] 40) := ⟨_, rfl⟩
  have b11 : Below w10.heap.size w10 W11 := by rw [hW11]; exact box_below _ _ _
  have Q8 := Lib.hid (q8.out W11 _ _ _ (r10.below b11) (by rw [hW11]; exact lit_mk w10 _ uC 1 rfl (by omega) rfl))
  have R10 := Lib.hid r10
  have d11 := Lib.hid (b9'.out.trans (b10.mono b9'.out.size))
  have b11' := Lib.hid b11
  have hW11' := Lib.hid hW11
  clear r10 b10 b11 hW11 q8 Q7 b9'
  go_wp2_with fail
  rw [← hW11'.out]
  clear hW11'
  refine Q8.out.mono ?_
  rintro e w12 ⟨a12, c12, rfl, -, b12⟩
  rw [show ([⟨2, ⟨#[98]⟩⟩] : List MkD).length = 1 from rfl]
  have e12 := b11'.out.trans (b12.mono b11'.out.size)
  have R12 := Lib.hid (R10.out.below e12)
  have Q9 := Lib.hid (q9.out w12 _ _ R12.out)
  have d12 := Lib.hid (d11.out.trans (e12.mono d11.out.size))
  clear b12 e12 R10 d11 b11' Q8 q9
  go_wp2_with fail
  refine Q9.out.mono ?_
  rintro e w13 ⟨rfl, b13⟩
  dsimp only [Option.getD]
  obtain ⟨V13, hV13⟩ : ∃ W, W = w13.alloc (.cells #[.int .u64 2, .string ⟨#[98]⟩] 40) := ⟨_, rfl⟩
  obtain ⟨gm, hgm⟩ : ∃ g, g = w13.heap.size := ⟨_, rfl⟩
  have c13 : Below w13.heap.size w13 V13 := by rw [hV13]; exact box_below _ _ _
  have HM13 := Lib.hid (show Holds V13 gm 40 #[.int .u64 2, .string ⟨#[98]⟩] by rw [hV13, hgm]; exact Holds.new _ _ _)
  have e13 := b13.trans (c13.mono b13.size)
  have R13 := Lib.hid (R12.out.below e13)
  have d13 := Lib.hid (d12.out.trans (e13.mono d12.out.size))
  have hV13' := Lib.hid hV13
  have hgm' := Lib.hid hgm
  clear b13 c13 e13 hV13 hgm R12 d12 Q9
  go_upto_region 10 with (fail)
  rw [← hV13'.out, ← hgm'.out]
  clear hV13' hgm'
  obtain ⟨W14, hW14⟩ : ∃ W, W = V13.alloc (.cells #[.int .u64 2, .string ⟨#[]⟩, .int .u64 1, .string ⟨#[]⟩] 40) := ⟨_, rfl⟩
  have b14 : Below V13.heap.size V13 W14 := by rw [hW14]; exact box_below _ _ _
  have Q10 := Lib.hid (q10.out W14 _ (by rw [hW14]; exact lit_mk V13 _ uD 2 rfl (by omega) rfl))
  have b14' := Lib.hid b14
  have hW14' := Lib.hid hW14
  clear b14 hW14 q10
  go_wp2_with fail
  rw [← hW14'.out]
  clear hW14'
  refine Q10.out.mono ?_
  rintro e w15 ⟨⟨j1, j1n, j1c, j2, j2n, j2c, j3, j3n, j3c, j4, j4n, j4c⟩, rfl, -, b15⟩
  unfold SpV.cells
  dsimp only
  obtain ⟨V16, hV16⟩ : ∃ W, W = w15.alloc (.cells #[.slice j1 j1n j1c, .slice j2 j2n j2c, .slice j3 j3n j3c, .slice j4 j4n j4c] 28) := ⟨_, rfl⟩
  have c16 : Below w15.heap.size w15 V16 := by rw [hV16]; exact box_below _ _ _
  have e16 : Below V13.heap.size V13 V16 := b14'.out.trans ((b15.trans (c16.mono b15.size)).mono b14'.out.size)
  have f16 := d13.out.trans (e16.mono d13.out.size)
  have HM := Lib.hid (HM13.out.below e16 HM13.out.lt)
  have RU := Lib.hid (R13.out.below e16)
  have HA := Lib.hid (HA8.out.below f16 HA8.out.lt)
  have HB := Lib.hid (HB8.out.below f16 HB8.out.lt)
  have HS := Lib.hid (HS8.out.below f16 HS8.out.lt)
  have RK := Lib.hid (RK8.out.below f16)
  have RF := Lib.hid (RF8.out.below f16)
  have BB := Lib.hid (B8.out.trans (f16.mono B8.out.size))
  have hV16' := Lib.hid hV16
  clear b14' b15 c16 e16 f16 hV16 HM13 R13 HA8 HB8 HS8 RK8 RF8 B8 d13 Q10
  go_upto_region 11 with (fail)
  rw [← hV16'.out]
  clear hV16'
  obtain ⟨bk, ok, rfl, hbk, kk0, kk1, kk2, kk3, kk4, kk5⟩ := al_at RK.out (show 0 < 1 by omega)
  obtain ⟨bf, of, rfl, hbf, kf0, kf1, kf2, kf3, kf4, kf5⟩ := al_at RF.out (show 0 < 1 by omega)
  have s0 := HS.out.cell 0
  have s1 := HS.out.cell 1
  have s2 := HS.out.cell 2
  have s3 := HS.out.cell 3
  have m1 := HM.out.cell 1
  have xa0 := HA.out.cell 0
  have xb0 := HB.out.cell 0
  have xa1 := HA.out.cell 1
  have xb1 := HB.out.cell 1
  have xa2 := HA.out.cell 2
  have xb2 := HB.out.cell 2
  have xa3 := HA.out.cell 3
  have xb3 := HB.out.cell 3
  have xa4 := HA.out.cell 4
  have xb4 := HB.out.cell 4
  have xa5 := HA.out.cell 5
  have xb5 := HB.out.cell 5
  simp at xa0 xb0 xa1 xb1 xa2 xb2 xa3 xb3 xa4 xb4 xa5 xb5
  simp [bvA, bvB] at s0 s1 s2 s3 m1 kk0 kk1 kk2 kk3 kk4 kk5 kf0 kf1 kf2 kf3 kf4 kf5
  have s0' : ∀ W, Below V16.heap.size V16 W → W.cell? ⟨gs, 0, none⟩ = some (.slice (some ⟨bk, ok, none⟩) 1 k1c) := fun W hW => (hW.cell (p := ⟨gs, 0, none⟩) HS.out.lt).trans s0
  have s1' : ∀ W, Below V16.heap.size V16 W → W.cell? ⟨gs, 1, none⟩ = some (.slice (some ⟨bf, of, none⟩) 1 k2c) := fun W hW => (hW.cell (p := ⟨gs, 1, none⟩) HS.out.lt).trans s1
  have s2' : ∀ W, Below V16.heap.size V16 W → W.cell? ⟨gs, 2, none⟩ = some (.slice k3 1 k3c) := fun W hW => (hW.cell (p := ⟨gs, 2, none⟩) HS.out.lt).trans s2
  have s3' : ∀ W, Below V16.heap.size V16 W → W.cell? ⟨gs, 3, none⟩ = some (.slice k4 0 k4c) := fun W hW => (hW.cell (p := ⟨gs, 3, none⟩) HS.out.lt).trans s3
  have m1' : ∀ W, Below V16.heap.size V16 W → W.cell? ⟨gm, 1, none⟩ = some (.string ⟨#[98]⟩) := fun W hW => (hW.cell (p := ⟨gm, 1, none⟩) HM.out.lt).trans m1
  have kk0' : ∀ W, Below V16.heap.size V16 W → W.cell? ⟨bk, ok, none⟩ = some (.int .i64 1) := fun W hW => (hW.cell (p := ⟨bk, ok, none⟩) hbk).trans kk0
  have kf0' : ∀ W, Below V16.heap.size V16 W → W.cell? ⟨bf, of, none⟩ = some (.int .i64 1) := fun W hW => (hW.cell (p := ⟨bf, of, none⟩) hbf).trans kf0
  have xa0' : ∀ W, Below V16.heap.size V16 W → W.cell? ⟨ga, 0, none⟩ = some (.int .i64 1) := fun W hW => (hW.cell (p := ⟨ga, 0, none⟩) HA.out.lt).trans xa0
  have xb0' : ∀ W, Below V16.heap.size V16 W → W.cell? ⟨gb, 0, none⟩ = some (.int .i64 1) := fun W hW => (hW.cell (p := ⟨gb, 0, none⟩) HB.out.lt).trans xb0
  have kk1' : ∀ W, Below V16.heap.size V16 W → W.cell? ⟨bk, ok + 1, none⟩ = some (.int .i64 1) := fun W hW => (hW.cell (p := ⟨bk, ok + 1, none⟩) hbk).trans kk1
  have kf1' : ∀ W, Below V16.heap.size V16 W → W.cell? ⟨bf, of + 1, none⟩ = some (.int .i64 1) := fun W hW => (hW.cell (p := ⟨bf, of + 1, none⟩) hbf).trans kf1
  have xa1' : ∀ W, Below V16.heap.size V16 W → W.cell? ⟨ga, 1, none⟩ = some (.int .i64 1) := fun W hW => (hW.cell (p := ⟨ga, 1, none⟩) HA.out.lt).trans xa1
  have xb1' : ∀ W, Below V16.heap.size V16 W → W.cell? ⟨gb, 1, none⟩ = some (.int .i64 1) := fun W hW => (hW.cell (p := ⟨gb, 1, none⟩) HB.out.lt).trans xb1
  have kk2' : ∀ W, Below V16.heap.size V16 W → W.cell? ⟨bk, ok + 2, none⟩ = some (.string ⟨#[102]⟩) := fun W hW => (hW.cell (p := ⟨bk, ok + 2, none⟩) hbk).trans kk2
  have kf2' : ∀ W, Below V16.heap.size V16 W → W.cell? ⟨bf, of + 2, none⟩ = some (.string ⟨#[102]⟩) := fun W hW => (hW.cell (p := ⟨bf, of + 2, none⟩) hbf).trans kf2
  have xa2' : ∀ W, Below V16.heap.size V16 W → W.cell? ⟨ga, 2, none⟩ = some (.string ⟨#[102]⟩) := fun W hW => (hW.cell (p := ⟨ga, 2, none⟩) HA.out.lt).trans xa2
  have xb2' : ∀ W, Below V16.heap.size V16 W → W.cell? ⟨gb, 2, none⟩ = some (.string ⟨#[102]⟩) := fun W hW => (hW.cell (p := ⟨gb, 2, none⟩) HB.out.lt).trans xb2
  have kk3' : ∀ W, Below V16.heap.size V16 W → W.cell? ⟨bk, ok + 3, none⟩ = some (.string ⟨#[97, 46, 103, 111]⟩) := fun W hW => (hW.cell (p := ⟨bk, ok + 3, none⟩) hbk).trans kk3
  have kf3' : ∀ W, Below V16.heap.size V16 W → W.cell? ⟨bf, of + 3, none⟩ = some (.string ⟨#[97, 46, 103, 111]⟩) := fun W hW => (hW.cell (p := ⟨bf, of + 3, none⟩) hbf).trans kf3
  have xa3' : ∀ W, Below V16.heap.size V16 W → W.cell? ⟨ga, 3, none⟩ = some (.string ⟨#[97, 46, 103, 111]⟩) := fun W hW => (hW.cell (p := ⟨ga, 3, none⟩) HA.out.lt).trans xa3
  have xb3' : ∀ W, Below V16.heap.size V16 W → W.cell? ⟨gb, 3, none⟩ = some (.string ⟨#[97, 46, 103, 111]⟩) := fun W hW => (hW.cell (p := ⟨gb, 3, none⟩) HB.out.lt).trans xb3
  have kk4' : ∀ W, Below V16.heap.size V16 W → W.cell? ⟨bk, ok + 4, none⟩ = some (.int .i64 3) := fun W hW => (hW.cell (p := ⟨bk, ok + 4, none⟩) hbk).trans kk4
  have kf4' : ∀ W, Below V16.heap.size V16 W → W.cell? ⟨bf, of + 4, none⟩ = some (.int .i64 9) := fun W hW => (hW.cell (p := ⟨bf, of + 4, none⟩) hbf).trans kf4
  have xa4' : ∀ W, Below V16.heap.size V16 W → W.cell? ⟨ga, 4, none⟩ = some (.int .i64 9) := fun W hW => (hW.cell (p := ⟨ga, 4, none⟩) HA.out.lt).trans xa4
  have xb4' : ∀ W, Below V16.heap.size V16 W → W.cell? ⟨gb, 4, none⟩ = some (.int .i64 3) := fun W hW => (hW.cell (p := ⟨gb, 4, none⟩) HB.out.lt).trans xb4
  have kk5' : ∀ W, Below V16.heap.size V16 W → W.cell? ⟨bk, ok + 5, none⟩ = some (.string ⟨#[120, 32, 60, 61, 32, 48]⟩) := fun W hW => (hW.cell (p := ⟨bk, ok + 5, none⟩) hbk).trans kk5
  have kf5' : ∀ W, Below V16.heap.size V16 W → W.cell? ⟨bf, of + 5, none⟩ = some (.string ⟨#[120, 32, 60, 61, 32, 48]⟩) := fun W hW => (hW.cell (p := ⟨bf, of + 5, none⟩) hbf).trans kf5
  have xa5' : ∀ W, Below V16.heap.size V16 W → W.cell? ⟨ga, 5, none⟩ = some (.string ⟨#[120, 32, 60, 61, 32, 48]⟩) := fun W hW => (hW.cell (p := ⟨ga, 5, none⟩) HA.out.lt).trans xa5
  have xb5' : ∀ W, Below V16.heap.size V16 W → W.cell? ⟨gb, 5, none⟩ = some (.string ⟨#[120, 32, 60, 61, 32, 48]⟩) := fun W hW => (hW.cell (p := ⟨gb, 5, none⟩) HB.out.lt).trans xb5
  clear s0 s1 s2 s3 m1 kk0 kk1 kk2 kk3 kk4 kk5 kf0 kf1 kf2 kf3 kf4 kf5 xa0 xb0 xa1 xb1 xa2 xb2 xa3 xb3 xa4 xb4 xa5 xb5
  go_wp2
  refine wp_drawn_on (fun W => Below V16.heap.size V16 W) (by kernel_rfl) ((Below.refl _ _).drew) (fun hHeld => ?_)
  refine wT 0 (v := ?v1) rfl (by as_aux_lemma => kernel_rfl) (fun _ _ _ h => h) ?h1 (by assumption) ?r1
  case h1 => (intro w hSw; (try dsimp only at hSw); go_simp; try with_reducible rfl)
  refine wT 1 (v := ?v2) rfl (by as_aux_lemma => kernel_rfl) (fun _ _ _ h => h) ?h2 (by assumption) ?r2
  case h2 => (intro w hSw; (try dsimp only at hSw); go_simp; try with_reducible rfl)
  refine wT 2 (v := ?v3) rfl (by as_aux_lemma => kernel_rfl) (fun _ _ _ h => h) ?h3 (by assumption) ?r3
  case h3 => (intro w hSw; (try dsimp only at hSw); go_simp; try with_reducible rfl)
  refine wT 3 (v := ?v4) rfl (by as_aux_lemma => kernel_rfl) (fun _ _ _ h => h) ?h4 (by assumption) ?r4
  case h4 => (intro w hSw; (try dsimp only at hSw); go_simp; try with_reducible rfl)
  refine wT 4 (v := ?v5) rfl (by as_aux_lemma => kernel_rfl) (fun _ _ _ h => h) ?h5 (by assumption) ?r5
  case h5 => (intro w hSw; (try dsimp only at hSw); go_simp; try with_reducible rfl)
  refine wT 5 (v := ?v6) rfl (by as_aux_lemma => kernel_rfl) (fun _ _ _ h => h) ?h6 (by assumption) ?r6
  case h6 => (intro w hSw; (try dsimp only at hSw); go_simp; try with_reducible rfl)
  refine wT 6 (v := ?v7) rfl (by as_aux_lemma => kernel_rfl) (fun _ _ _ h => h) ?h7 (by assumption) ?r7
  case h7 => (intro w hSw; (try dsimp only at hSw); go_simp; try with_reducible rfl)
  refine wT 7 (v := ?v8) rfl (by as_aux_lemma => kernel_rfl) (fun _ _ _ h => h) ?h8 (by assumption) ?r8
  case h8 => (intro w hSw; (try dsimp only at hSw); go_simp; try with_reducible rfl)
  refine wT 8 (v := ?v9) rfl (by as_aux_lemma => kernel_rfl) (fun _ _ _ h => h) ?h9 (by assumption) ?r9
  case h9 => (intro w hSw; (try dsimp only at hSw); go_simp; try with_reducible rfl)
  refine wT 9 (v := ?v10) rfl (by as_aux_lemma => kernel_rfl) (fun _ _ _ h => h) ?h10 (by assumption) ?r10
  case h10 => (intro w hSw; (try dsimp only at hSw); go_simp; try with_reducible rfl)
  refine wT 10 (v := ?v11) rfl (by as_aux_lemma => kernel_rfl) (fun _ _ _ h => h) ?h11 (by assumption) ?r11
  case h11 => (intro w hSw; (try dsimp only at hSw); go_simp; try with_reducible rfl)
  refine wT 11 (v := ?v12) rfl (by as_aux_lemma => kernel_rfl) (fun _ _ _ h => h) ?h12 (by assumption) ?r12
  case h12 => (intro w hSw; (try dsimp only at hSw); go_simp; try with_reducible rfl)
  refine wT 12 (v := ?v13) rfl (by as_aux_lemma => kernel_rfl) (fun _ _ _ h => h) ?h13 (by assumption) ?r13
  case h13 => (intro w hSw; (try dsimp only at hSw); go_simp; try with_reducible rfl)
  refine wT 13 (v := ?v14) rfl (by as_aux_lemma => kernel_rfl) (fun _ _ _ h => h) ?h14 (by assumption) ?r14
  case h14 => (intro w hSw; (try dsimp only at hSw); go_simp; try with_reducible rfl)
  refine wT 14 (v := ?v15) rfl (by as_aux_lemma => kernel_rfl) (fun _ _ _ h => h) ?h15 (by assumption) ?r15
  case h15 => (intro w hSw; (try dsimp only at hSw); go_simp; try with_reducible rfl)
  refine wT 15 (v := ?v16) rfl (by as_aux_lemma => kernel_rfl) (fun _ _ _ h => h) ?h16 (by assumption) ?r16
  case h16 => (intro w hSw; (try dsimp only at hSw); go_simp; try with_reducible rfl)
  refine wT 16 (v := ?v17) rfl (by as_aux_lemma => kernel_rfl) (fun _ _ _ h => h) ?h17 (by assumption) ?r17
  case h17 => (intro w hSw; (try dsimp only at hSw); go_simp; try with_reducible rfl)
  refine wT 17 (v := ?v18) rfl (by as_aux_lemma => kernel_rfl) (fun _ _ _ h => h) ?h18 (by assumption) ?r18
  case h18 => (intro w hSw; (try dsimp only at hSw); go_simp; try with_reducible rfl)
  refine wT 18 (v := ?v19) rfl (by as_aux_lemma => kernel_rfl) (fun _ _ _ h => h) ?h19 (by assumption) ?r19
  case h19 => (intro w hSw; (try dsimp only at hSw); go_simp; try with_reducible rfl)
  refine wT 19 (v := ?v20) rfl (by as_aux_lemma => kernel_rfl) (fun _ _ _ h => h) ?h20 (by assumption) ?r20
  case h20 => (intro w hSw; (try dsimp only at hSw); go_simp; try with_reducible rfl)
  refine wT 20 (v := ?v21) rfl (by as_aux_lemma => kernel_rfl) (fun _ _ _ h => h) ?h21 (by assumption) ?r21
  case h21 => (intro w hSw; (try dsimp only at hSw); go_simp; try with_reducible rfl)
  refine wT 21 (v := ?v22) rfl (by as_aux_lemma => kernel_rfl) (fun _ _ _ h => h) ?h22 (by assumption) ?r22
  case h22 => (intro w hSw; (try dsimp only at hSw); go_simp; try with_reducible rfl)
  refine wT 22 (v := ?v23) rfl (by as_aux_lemma => kernel_rfl) (fun _ _ _ h => h) ?h23 (by assumption) ?r23
  case h23 => (intro w hSw; (try dsimp only at hSw); go_simp; try with_reducible rfl)
  refine wT 23 (v := ?v24) rfl (by as_aux_lemma => kernel_rfl) (fun _ _ _ h => h) ?h24 (by assumption) ?r24
  case h24 => (intro w hSw; (try dsimp only at hSw); go_simp; try with_reducible rfl)
  refine wT 24 (v := ?v25) rfl (by as_aux_lemma => kernel_rfl) (fun _ _ _ h => h) ?h25 (by assumption) ?r25
  case h25 => (intro w hSw; (try dsimp only at hSw); go_simp; try with_reducible rfl)
  refine wT 25 (v := ?v26) rfl (by as_aux_lemma => kernel_rfl) (fun _ _ _ h => h) ?h26 (by assumption) ?r26
  case h26 => (intro w hSw; (try dsimp only at hSw); go_simp; try with_reducible rfl)
  refine wT 26 (v := ?v27) rfl (by as_aux_lemma => kernel_rfl) (fun _ _ _ h => h) ?h27 (by assumption) ?r27
  case h27 => (intro w hSw; (try dsimp only at hSw); go_simp; try with_reducible rfl)
  refine wT 27 (v := ?v28) rfl (by as_aux_lemma => kernel_rfl) (fun _ _ _ h => h) ?h28 (by assumption) ?r28
  case h28 => (intro w hSw; (try dsimp only at hSw); go_simp; try with_reducible rfl)
  refine wT 28 (v := ?v29) rfl (by as_aux_lemma => kernel_rfl) (fun _ _ _ h => h) ?h29 (by assumption) ?r29
  case h29 => (intro w hSw; (try dsimp only at hSw); go_simp; try with_reducible rfl)
  refine wT 29 (v := ?v30) rfl (by as_aux_lemma => kernel_rfl) (fun _ _ _ h => h) ?h30 (by assumption) ?r30
  case h30 => (intro w hSw; (try dsimp only at hSw); go_simp; try with_reducible rfl)
  refine wT 30 (v := ?v31) rfl (by as_aux_lemma => kernel_rfl) (fun _ _ _ h => h) ?h31 (by assumption) ?r31
  case h31 => (intro w hSw; (try dsimp only at hSw); go_simp; try with_reducible rfl)
  refine wT 31 (v := ?v32) rfl (by as_aux_lemma => kernel_rfl) (fun _ _ _ h => h) ?h32 (by assumption) ?r32
  case h32 => (intro w hSw; (try dsimp only at hSw); go_simp; try with_reducible rfl)
  refine wT 32 (v := ?v33) rfl (by as_aux_lemma => kernel_rfl) (fun _ _ _ h => h) ?h33 (by assumption) ?r33
  case h33 => (intro w hSw; (try dsimp only at hSw); go_simp; try with_reducible rfl)
  refine wT 33 (v := ?v34) rfl (by as_aux_lemma => kernel_rfl) (fun _ _ _ h => h) ?h34 (by assumption) ?r34
  case h34 => (intro w hSw; (try dsimp only at hSw); go_simp; try with_reducible rfl)
  refine wT 34 (v := ?v35) rfl (by as_aux_lemma => kernel_rfl) (fun _ _ _ h => h) ?h35 (by assumption) ?r35
  case h35 => (intro w hSw; (try dsimp only at hSw); go_simp; try with_reducible rfl)
  refine wT 35 (v := ?v36) rfl (by as_aux_lemma => kernel_rfl) (fun _ _ _ h => h) ?h36 (by assumption) ?r36
  case h36 => (intro w hSw; (try dsimp only at hSw); go_simp; try with_reducible rfl)
  refine wT 36 (v := ?v37) rfl (by as_aux_lemma => kernel_rfl) (fun _ _ _ h => h) ?h37 (by assumption) ?r37
  case h37 => (intro w hSw; (try dsimp only at hSw); go_simp; try with_reducible rfl)
  refine wT 37 (v := ?v38) rfl (by as_aux_lemma => kernel_rfl) (fun _ _ _ h => h) ?h38 (by assumption) ?r38
  case h38 => (intro w hSw; (try dsimp only at hSw); go_simp; try with_reducible rfl)
  refine wT 38 (v := ?v39) rfl (by as_aux_lemma => kernel_rfl) (fun _ _ _ h => h) ?h39 (by assumption) ?r39
  case h39 => (intro w hSw; (try dsimp only at hSw); go_simp; try with_reducible rfl)
  refine wT 39 (v := ?v40) rfl (by as_aux_lemma => kernel_rfl) (fun _ _ _ h => h) ?h40 (by assumption) ?r40
  case h40 => (intro w hSw; (try dsimp only at hSw); go_simp; try with_reducible rfl)
  refine wT 40 (v := ?v41) rfl (by as_aux_lemma => kernel_rfl) (fun _ _ _ h => h) ?h41 (by assumption) ?r41
  case h41 => (intro w hSw; (try dsimp only at hSw); go_simp; try with_reducible rfl)
  refine wT 41 (v := ?v42) rfl (by as_aux_lemma => kernel_rfl) (fun _ _ _ h => h) ?h42 (by assumption) ?r42
  case h42 => (intro w hSw; (try dsimp only at hSw); go_simp; try with_reducible rfl)
  refine wT 42 (v := ?v43) rfl (by as_aux_lemma => kernel_rfl) (fun _ _ _ h => h) ?h43 (by assumption) ?r43
  case h43 => (intro w hSw; (try dsimp only at hSw); go_simp; try with_reducible rfl)
  refine wT 43 (v := ?v44) rfl (by as_aux_lemma => kernel_rfl) (fun _ _ _ h => h) ?h44 (by assumption) ?r44
  case h44 => (intro w hSw; (try dsimp only at hSw); go_simp; try with_reducible rfl)
  refine wT 44 (v := ?v45) rfl (by as_aux_lemma => kernel_rfl) (fun _ _ _ h => h) ?h45 (by assumption) ?r45
  case h45 => (intro w hSw; (try dsimp only at hSw); go_simp; try with_reducible rfl)
  refine wT 45 (v := ?v46) rfl (by as_aux_lemma => kernel_rfl) (fun _ _ _ h => h) ?h46 (by assumption) ?r46
  case h46 => (intro w hSw; (try dsimp only at hSw); go_simp; try with_reducible rfl)
  refine wT 46 (v := ?v47) rfl (by as_aux_lemma => kernel_rfl) (fun _ _ _ h => h) ?h47 (by assumption) ?r47
  case h47 => (intro w hSw; (try dsimp only at hSw); go_simp; try with_reducible rfl)
  refine wT 47 (v := ?v48) rfl (by as_aux_lemma => kernel_rfl) (fun _ _ _ h => h) ?h48 (by assumption) ?r48
  case h48 => (intro w hSw; (try dsimp only at hSw); go_simp; try with_reducible rfl)
  refine wT 48 (v := ?v49) rfl (by as_aux_lemma => kernel_rfl) (fun _ _ _ h => h) ?h49 (by assumption) ?r49
  case h49 => (intro w hSw; (try dsimp only at hSw); go_simp; try with_reducible rfl)
  refine wT 49 (v := ?v50) rfl (by as_aux_lemma => kernel_rfl) (fun _ _ _ h => h) ?h50 (by assumption) ?r50
  case h50 => (intro w hSw; (try dsimp only at hSw); go_simp; try with_reducible rfl)
  refine wT 50 (v := ?v51) rfl (by as_aux_lemma => kernel_rfl) (fun _ _ _ h => h) ?h51 (by assumption) ?r51
  case h51 => (intro w hSw; (try dsimp only at hSw); go_simp; try with_reducible rfl)
  refine wT 51 (v := ?v52) rfl (by as_aux_lemma => kernel_rfl) (fun _ _ _ h => h) ?h52 (by assumption) ?r52
  case h52 => (intro w hSw; (try dsimp only at hSw); go_simp; try with_reducible rfl)
  refine wT 52 (v := ?v53) rfl (by as_aux_lemma => kernel_rfl) (fun _ _ _ h => h) ?h53 (by assumption) ?r53
  case h53 => (intro w hSw; (try dsimp only at hSw); go_simp; try with_reducible rfl)
  refine wT 53 (v := ?v54) rfl (by as_aux_lemma => kernel_rfl) (fun _ _ _ h => h) ?h54 (by assumption) ?r54
  case h54 => (intro w hSw; (try dsimp only at hSw); go_simp; try with_reducible rfl)
  refine wT 54 (v := ?v55) rfl (by as_aux_lemma => kernel_rfl) (fun _ _ _ h => h) ?h55 (by assumption) ?r55
  case h55 => (intro w hSw; (try dsimp only at hSw); go_simp; try with_reducible rfl)
  refine wT 55 (v := ?v56) rfl (by as_aux_lemma => kernel_rfl) (fun _ _ _ h => h) ?h56 (by assumption) ?r56
  case h56 => (intro w hSw; (try dsimp only at hSw); go_simp; try with_reducible rfl)
  refine wT 56 (v := ?v57) rfl (by as_aux_lemma => kernel_rfl) (fun _ _ _ h => h) ?h57 (by assumption) ?r57
  case h57 => (intro w hSw; (try dsimp only at hSw); go_simp; try with_reducible rfl)
  refine wT 57 (v := ?v58) rfl (by as_aux_lemma => kernel_rfl) (fun _ _ _ h => h) ?h58 (by assumption) ?r58
  case h58 => (intro w hSw; (try dsimp only at hSw); go_simp; try with_reducible rfl)
  refine wT 58 (v := ?v59) rfl (by as_aux_lemma => kernel_rfl) (fun _ _ _ h => h) ?h59 (by assumption) ?r59
  case h59 => (intro w hSw; (try dsimp only at hSw); go_simp; try with_reducible rfl)
  try simp only [Act.put, List.setIfInBounds_toArray, List.set_cons_zero, List.set_cons_succ]
  refine wpAnyH_ready (rs := [59]) (by as_aux_lemma => kernel_rfl) (by simp) ?_
  refine AllReadyH.cons (o := ⟨_, _, _, _, _, _⟩) rfl (fun K hK => ?_) AllReadyH.nil
  go_simp
  have hx59 : Below V16.heap.size V16 ((V16.alloc (.cells #[.int .u64 1, .string ⟨#[]⟩, .int .u64 2, .string ⟨#[98]⟩] 40)).drew) := ((Below.refl V16.heap.size V16).alloc (Nat.le_refl _) _).drew
  have r59 : RO mkC ((V16.alloc (.cells #[.int .u64 1, .string ⟨#[]⟩, .int .u64 2, .string ⟨#[98]⟩] 40)).drew) (some ⟨V16.heap.size, 0, none⟩) 2 2 uB := RO.below (lit_mk V16 #[.int .u64 1, .string ⟨#[]⟩, .int .u64 2, .string ⟨#[98]⟩] uB 2 rfl (by omega) rfl) (Below.refl _ _).drew
  refine hK.out _ _ (hx59) (fun hHeld => ?_)
  clear hK K
  try simp only [Act.put, List.setIfInBounds_toArray, List.set_cons_zero, List.set_cons_succ]
  refine wpAnyH_ready (rs := [60]) (by as_aux_lemma => kernel_rfl) (by simp) ?_
  refine AllReadyH.cons (o := ⟨_, _, _, _, _, _⟩) rfl (fun K hK => ?_) AllReadyH.nil
  go_simp
  refine (q11.out _ _ _ _ (RU.out.below hx59) r59).mono ?_
  rintro e w60 ⟨rfl, m60, rfl⟩
  have hx60 : Below V16.heap.size V16 ((V16.alloc (.cells #[.int .u64 1, .string ⟨#[]⟩, .int .u64 2, .string ⟨#[98]⟩] 40)).drewN (1 + m60)) := Below.drewN ((Below.refl V16.heap.size V16).alloc (Nat.le_refl _) _) (1 + m60)
  go_simp
  refine hK.out _ _ (hx60) (fun hHeld => ?_)
  clear hK K
  refine wT 61 (v := ?v60) rfl (by as_aux_lemma => kernel_rfl) (fun _ _ _ h => h) ?h60 (by assumption) ?r60
  case h60 => (intro w hSw; (try dsimp only at hSw); go_simp; try with_reducible rfl)
  refine wT 62 (v := ?v61) rfl (by as_aux_lemma => kernel_rfl) (fun _ _ _ h => h) ?h61 (by assumption) ?r61
  case h61 => (intro w hSw; (try dsimp only at hSw); go_simp; try with_reducible rfl)
  refine wT 63 (v := ?v62) rfl (by as_aux_lemma => kernel_rfl) (fun _ _ _ h => h) ?h62 (by assumption) ?r62
  case h62 => (intro w hSw; (try dsimp only at hSw); go_simp; try with_reducible rfl)
  refine wT 64 (v := ?v63) rfl (by as_aux_lemma => kernel_rfl) (fun _ _ _ h => h) ?h63 (by assumption) ?r63
  case h63 => (intro w hSw; (try dsimp only at hSw); go_simp; try with_reducible rfl)
  refine wT 65 (v := ?v64) rfl (by as_aux_lemma => kernel_rfl) (fun _ _ _ h => h) ?h64 (by assumption) ?r64
  case h64 => (intro w hSw; (try dsimp only at hSw); go_simp; try with_reducible rfl)
  refine wT 66 (v := ?v65) rfl (by as_aux_lemma => kernel_rfl) (fun _ _ _ h => h) ?h65 (by assumption) ?r65
  case h65 => (intro w hSw; (try dsimp only at hSw); go_simp; try with_reducible rfl)
  refine wT 67 (v := ?v66) rfl (by as_aux_lemma => kernel_rfl) (fun _ _ _ h => h) ?h66 (by assumption) ?r66
  case h66 => (intro w hSw; (try dsimp only at hSw); go_simp; try with_reducible rfl)
  refine wT 68 (v := ?v67) rfl (by as_aux_lemma => kernel_rfl) (fun _ _ _ h => h) ?h67 (by assumption) ?r67
  case h67 => (intro w hSw; (try dsimp only at hSw); go_simp; try with_reducible rfl)
  refine wT 69 (v := ?v68) rfl (by as_aux_lemma => kernel_rfl) (fun _ _ _ h => h) ?h68 (by assumption) ?r68
  case h68 => (intro w hSw; (try dsimp only at hSw); go_simp; try with_reducible rfl)
  refine wT 70 (v := ?v69) rfl (by as_aux_lemma => kernel_rfl) (fun _ _ _ h => h) ?h69 (by assumption) ?r69
  case h69 => (intro w hSw; (try dsimp only at hSw); go_simp; try with_reducible rfl)
  refine wT 71 (v := ?v70) rfl (by as_aux_lemma => kernel_rfl) (fun _ _ _ h => h) ?h70 (by assumption) ?r70
  case h70 => (intro w hSw; (try dsimp only at hSw); go_simp; try with_reducible rfl)
  refine wT 72 (v := ?v71) rfl (by as_aux_lemma => kernel_rfl) (fun _ _ _ h => h) ?h71 (by assumption) ?r71
  case h71 => (intro w hSw; (try dsimp only at hSw); go_simp; try with_reducible rfl)
  refine wT 73 (v := ?v72) rfl (by as_aux_lemma => kernel_rfl) (fun _ _ _ h => h) ?h72 (by assumption) ?r72
  case h72 => (intro w hSw; (try dsimp only at hSw); go_simp; try with_reducible rfl)
  refine wT 74 (v := ?v73) rfl (by as_aux_lemma => kernel_rfl) (fun _ _ _ h => h) ?h73 (by assumption) ?r73
  case h73 => (intro w hSw; (try dsimp only at hSw); go_simp; try with_reducible rfl)
  refine wT 75 (v := ?v74) rfl (by as_aux_lemma => kernel_rfl) (fun _ _ _ h => h) ?h74 (by assumption) ?r74
  case h74 => (intro w hSw; (try dsimp only at hSw); go_simp; try with_reducible rfl)
  refine wT 76 (v := ?v75) rfl (by as_aux_lemma => kernel_rfl) (fun _ _ _ h => h) ?h75 (by assumption) ?r75
  case h75 => (intro w hSw; (try dsimp only at hSw); go_simp; try with_reducible rfl)
  refine wT 77 (v := ?v76) rfl (by as_aux_lemma => kernel_rfl) (fun _ _ _ h => h) ?h76 (by assumption) ?r76
  case h76 => (intro w hSw; (try dsimp only at hSw); go_simp; try with_reducible rfl)
  refine wT 78 (v := ?v77) rfl (by as_aux_lemma => kernel_rfl) (fun _ _ _ h => h) ?h77 (by assumption) ?r77
  case h77 => (intro w hSw; (try dsimp only at hSw); go_simp; try with_reducible rfl)
  refine wT 79 (v := ?v78) rfl (by as_aux_lemma => kernel_rfl) (fun _ _ _ h => h) ?h78 (by assumption) ?r78
  case h78 => (intro w hSw; (try dsimp only at hSw); go_simp; try with_reducible rfl)
  refine wT 80 (v := ?v79) rfl (by as_aux_lemma => kernel_rfl) (fun _ _ _ h => h) ?h79 (by assumption) ?r79
  case h79 => (intro w hSw; (try dsimp only at hSw); go_simp; try with_reducible rfl)
  refine wT 81 (v := ?v80) rfl (by as_aux_lemma => kernel_rfl) (fun _ _ _ h => h) ?h80 (by assumption) ?r80
  case h80 => (intro w hSw; (try dsimp only at hSw); go_simp; try with_reducible rfl)
  refine wT 82 (v := ?v81) rfl (by as_aux_lemma => kernel_rfl) (fun _ _ _ h => h) ?h81 (by assumption) ?r81
  case h81 => (intro w hSw; (try dsimp only at hSw); go_simp; try with_reducible rfl)
  refine wT 83 (v := ?v82) rfl (by as_aux_lemma => kernel_rfl) (fun _ _ _ h => h) ?h82 (by assumption) ?r82
  case h82 => (intro w hSw; (try dsimp only at hSw); go_simp; try with_reducible rfl)
  refine wT 84 (v := ?v83) rfl (by as_aux_lemma => kernel_rfl) (fun _ _ _ h => h) ?h83 (by assumption) ?r83
  case h83 => (intro w hSw; (try dsimp only at hSw); go_simp; try with_reducible rfl)
  refine wT 85 (v := ?v84) rfl (by as_aux_lemma => kernel_rfl) (fun _ _ _ h => h) ?h84 (by assumption) ?r84
  case h84 => (intro w hSw; (try dsimp only at hSw); go_simp; try with_reducible rfl)
  try simp only [Act.put, List.setIfInBounds_toArray, List.set_cons_zero, List.set_cons_succ]
  refine wpAnyH_ready (rs := [86]) (by as_aux_lemma => kernel_rfl) (by simp) ?_
  refine AllReadyH.cons (o := ⟨_, _, _, _, _, _⟩) rfl (fun K hK => ?_) AllReadyH.nil
  go_simp
  refine (q12.out _ _ _ (RU.out.below hHeld)).mono ?_
  rintro e w86 ⟨rfl, b86⟩
  have hx86 := hHeld.trans (b86.mono hHeld.size)
  go_simp
  refine hK.out _ _ (hx86) (fun hHeld => ?_)
  clear hK K
  refine wT 87 (v := ?v85) rfl (by as_aux_lemma => kernel_rfl) (fun _ _ _ h => h) ?h85 (by assumption) ?r85
  case h85 => (intro w hSw; (try dsimp only at hSw); go_simp; try with_reducible rfl)
  refine wT 88 (v := ?v86) rfl (by as_aux_lemma => kernel_rfl) (fun _ _ _ h => h) ?h86 (by assumption) ?r86
  case h86 => (intro w hSw; (try dsimp only at hSw); go_simp; try with_reducible rfl)
  try simp only [Act.put, List.setIfInBounds_toArray, List.set_cons_zero, List.set_cons_succ]
  refine wpAnyH_done (by as_aux_lemma => kernel_rfl) ?_ _
  clear s0' s1' s2' s3' m1'
  go_wp2
  exact bodyPost_ret (results_tmp rfl _ _ _) rfl ⟨rfl, BB.out.trans (hHeld.mono BB.out.size)⟩
end Go.Proofs.YtpchncpcckfghaaGreat
namespace Go.Proofs.YtpchncpcckfghaaGreat
open Go.RowKit Go.Sort
set_option linter.unusedVariables false
set_option linter.unusedSimpArgs false
set_option maxRecDepth 1000000 in
set_option maxHeartbeats 16000000 in
theorem usift_any (blk off cap lo hi first : Nat) (d0 d : Array Int) (w0 w : World) (R : RU w0 blk off d0) (hs : d.size = d0.size) (S : SU w0 blk off d w) (hlo : lo ≤ hi) (hb : first + hi ≤ d.size) (hsz : d.size ≤ 1000000) :
    Calls Tryz.prog 106 #[.slice (some ⟨blk, off, none⟩) d.size cap, .int .i64 lo, .int .i64 hi, .int .i64 first] w fun e w' => e = .returned (.tuple #[]) ∧ SU w0 blk off (Sort.siftDown ltInt hi first lo d) w' := by
  have S0 := Lib.hid S
  have RR := Lib.hid R
  have HS := Lib.hid hs
  clear S R hs
  go_enter Tryz.func106, Tryz.ntmps106
  go_wp2
  go_loopw [8] (fun vi wr => ∃ (r : Nat) (dk : Array Int), vi = .int .i64 r ∧ r ≤ hi ∧ dk.size = d.size ∧ Hid (SU w0 blk off dk wr) ∧ Hid (Sort.siftDown ltInt hi first r dk = Sort.siftDown ltInt hi first lo d)) (fun vi _ => hi - (intOf vi).toNat)
  case atStart => exact ⟨lo, d, rfl, hlo, rfl, S0, Lib.hid rfl⟩
  case round =>
    clear S0
    obtain ⟨r, dk, rfl, hr, hsk, SK, HO⟩ := hrel
    obtain ⟨G, hG⟩ : ∃ G : Nat → Int, ∀ t, G t = dk[t]! := ⟨fun t => dk[t]!, fun _ => rfl⟩
    obtain ⟨hcw, hfw⟩ := SK.out.cells RR.out (by have := HS.out; omega) G hG hsk
    have HG := Lib.hid hG
    clear hG
    by_cases h0 : hi ≤ 2 * r + 1
    · have h0z : (hi : Int) ≤ 2 * (r : Int) + 1 := by omega
      go_wp2
      go_end0
      exact ⟨rfl, by rw [← HO.out, sd_end ltInt dk h0]; exact SK.out⟩
    · have h0z : ¬ (hi : Int) ≤ 2 * (r : Int) + 1 := by omega
      have hgo : ∀ q, Hid (Sort.siftDown ltInt hi first r dk = Sort.siftDown ltInt hi first q (swp dk (first + r) (first + q))) → Hid (Sort.siftDown ltInt hi first q (swp dk (first + r) (first + q)) = Sort.siftDown ltInt hi first lo d) := fun q h => Lib.hid (h.out.symm.trans HO.out)
      have hgo' := Lib.hid hgo
      clear hgo
      by_cases h2 : 2 * r + 2 < hi
      · have h2z : 2 * (r : Int) + 1 + 1 < (hi : Int) := by omega
        obtain ⟨c2, hc2⟩ : ∃ q, q = 2 * r + 2 := ⟨_, rfl⟩
        obtain ⟨c1, hc1⟩ : ∃ q, q = 2 * r + 1 := ⟨_, rfl⟩
        have E1 : first + (2 * r + 1) = first + 2 * r + 1 := by omega
        have E2 : first + (2 * r + 2) = first + 2 * r + 2 := by omega
        by_cases hl1 : G (first + 2 * r + 1) < G (first + 2 * r + 2)
        · have hl1' := hl1
          have hcmp : Hid (ltInt dk[first + (2 * r + 1)]! dk[first + (2 * r + 2)]! = true) := Lib.hid (by rw [← HG.out, ← HG.out, E1, E2]; exact decide_eq_true hl1)
          go_wp2
          go_quiet (first | (go_at_call 60; exact quiet_mine (uless_any _ _ _)))
          go_upto_region 5 with (fail)
          rw [show 2 * (r : Int) + 1 + 1 = (c2 : Int) by omega]
          have hcz : (c2 : Int) < (hi : Int) := by omega
          have hch : c2 < hi := by omega
          have hfc : first + c2 < d.size := by omega
          have hfr : first + r < d.size := by omega
          have hrc : r < c2 := by omega
          have hc2' := Lib.hid hc2
          clear hc2 E1 E2 hl1 hl1'
          have SK2 : Hid (SU w0 blk off dk (wr.drewN nq)) := Lib.hid (SK.out.drewN nq)
          clear hcw hfw SK
          generalize wr.drewN nq = W2 at *
          obtain ⟨hcw, hfw⟩ := SK2.out.cells RR.out (by have := HS.out; omega) G HG.out hsk
          go_wp2
          go_quiet (first | (go_at_call 60; exact quiet_mine (uless_any _ _ _)))
          go_wp2
          · have hn : (!decide (G (first + r) < G (first + c2))) = true := by assumption
            have hl2 : ¬ G (first + r) < G (first + c2) := by simpa using hn
            have hst : Hid (dk = Sort.siftDown ltInt hi first lo d) := Lib.hid (((by have hcc := hc2'.out; subst hcc; exact sd_right_stop ltInt dk h2 hcmp.out (by rw [← HG.out, ← HG.out]; exact decide_eq_false (by omega))) : Sort.siftDown ltInt hi first r dk = dk).symm.trans HO.out)
            exact bodyPost_ret (results_none rfl _ _ _) rfl ⟨rfl, by rw [← hst.out]; exact SK2.out.drewN _⟩
          · have hn : (!decide (G (first + r) < G (first + c2))) = false := by assumption
            have hl2 : G (first + r) < G (first + c2) := by simpa using hn
            have hst : Hid (Sort.siftDown ltInt hi first c2 (swp dk (first + r) (first + c2)) = Sort.siftDown ltInt hi first lo d) := hgo'.out c2 (Lib.hid (by have hcc := hc2'.out; subst hcc; exact sd_right_go ltInt dk h2 hcmp.out (by rw [← HG.out, ← HG.out]; exact decide_eq_true hl2)))
            go_region
            all_goals go_wp2
            go_roundw
            case rel => exact ⟨c2, swp dk (first + r) (first + c2), rfl, by omega, by rw [size_swp]; exact hsk, Lib.hid (SK2.out.swp RR.out _ HG.out (by omega) (by omega)), hst⟩
            case measure => simp [intOf]; omega
        · have hl1' := hl1
          have hcmp : Hid (2 * r + 2 < hi → ltInt dk[first + (2 * r + 1)]! dk[first + (2 * r + 2)]! = false) := Lib.hid (fun _ => by rw [← HG.out, ← HG.out, E1, E2]; exact decide_eq_false (by omega))
          go_wp2
          go_quiet (first | (go_at_call 60; exact quiet_mine (uless_any _ _ _)))
          go_upto_region 5 with (fail)
          rw [show 2 * (r : Int) + 1 = (c1 : Int) by omega]
          have hcz : (c1 : Int) < (hi : Int) := by omega
          have hch : c1 < hi := by omega
          have hfc : first + c1 < d.size := by omega
          have hfr : first + r < d.size := by omega
          have hrc : r < c1 := by omega
          have hc1' := Lib.hid hc1
          clear hc1 E1 E2 hl1 hl1'
          have SK2 : Hid (SU w0 blk off dk (wr.drewN nq)) := Lib.hid (SK.out.drewN nq)
          clear hcw hfw SK
          generalize wr.drewN nq = W2 at *
          obtain ⟨hcw, hfw⟩ := SK2.out.cells RR.out (by have := HS.out; omega) G HG.out hsk
          go_wp2
          go_quiet (first | (go_at_call 60; exact quiet_mine (uless_any _ _ _)))
          go_wp2
          · have hn : (!decide (G (first + r) < G (first + c1))) = true := by assumption
            have hl2 : ¬ G (first + r) < G (first + c1) := by simpa using hn
            have hst : Hid (dk = Sort.siftDown ltInt hi first lo d) := Lib.hid (((by have hcc := hc1'.out; subst hcc; exact sd_left_stop ltInt dk (by omega) hcmp.out (by rw [← HG.out, ← HG.out]; exact decide_eq_false (by omega))) : Sort.siftDown ltInt hi first r dk = dk).symm.trans HO.out)
            exact bodyPost_ret (results_none rfl _ _ _) rfl ⟨rfl, by rw [← hst.out]; exact SK2.out.drewN _⟩
          · have hn : (!decide (G (first + r) < G (first + c1))) = false := by assumption
            have hl2 : G (first + r) < G (first + c1) := by simpa using hn
            have hst : Hid (Sort.siftDown ltInt hi first c1 (swp dk (first + r) (first + c1)) = Sort.siftDown ltInt hi first lo d) := hgo'.out c1 (Lib.hid (by have hcc := hc1'.out; subst hcc; exact sd_left_go ltInt dk (by omega) hcmp.out (by rw [← HG.out, ← HG.out]; exact decide_eq_true hl2)))
            go_region
            all_goals go_wp2
            go_roundw
            case rel => exact ⟨c1, swp dk (first + r) (first + c1), rfl, by omega, by rw [size_swp]; exact hsk, Lib.hid (SK2.out.swp RR.out _ HG.out (by omega) (by omega)), hst⟩
            case measure => simp [intOf]; omega
      · have h2z : ¬ 2 * (r : Int) + 1 + 1 < (hi : Int) := by omega
        obtain ⟨c1, hc1⟩ : ∃ q, q = 2 * r + 1 := ⟨_, rfl⟩
        have hcmp : Hid (2 * r + 2 < hi → ltInt dk[first + (2 * r + 1)]! dk[first + (2 * r + 2)]! = false) := Lib.hid (fun h => absurd h h2)
        have h2b : decide (2 * (r : Int) + 1 + 1 < (hi : Int)) = false := decide_eq_false h2z
        have hc1z := Lib.hid hc1
        clear hc1
        go_wp2
        go_quiet (first | (go_at_call 60; exact quiet_mine (uless_any _ _ _)))
        have hc1 := hc1z.out
        go_upto_region 5 with (fail)
        rw [show 2 * (r : Int) + 1 = (c1 : Int) by omega]
        have hcz : (c1 : Int) < (hi : Int) := by omega
        have hch : c1 < hi := by omega
        have hfc : first + c1 < d.size := by omega
        have hfr : first + r < d.size := by omega
        have hrc : r < c1 := by omega
        have hc1' := Lib.hid hc1
        clear hc1
        have SK2 : Hid (SU w0 blk off dk (wr.drewN nq)) := Lib.hid (SK.out.drewN nq)
        clear hcw hfw SK
        generalize wr.drewN nq = W2 at *
        obtain ⟨hcw, hfw⟩ := SK2.out.cells RR.out (by have := HS.out; omega) G HG.out hsk
        go_wp2
        go_quiet (first | (go_at_call 60; exact quiet_mine (uless_any _ _ _)))
        go_wp2
        · have hn : (!decide (G (first + r) < G (first + c1))) = true := by assumption
          have hl2 : ¬ G (first + r) < G (first + c1) := by simpa using hn
          have hst : Hid (dk = Sort.siftDown ltInt hi first lo d) := Lib.hid (((by have hcc := hc1'.out; subst hcc; exact sd_left_stop ltInt dk (by omega) hcmp.out (by rw [← HG.out, ← HG.out]; exact decide_eq_false (by omega))) : Sort.siftDown ltInt hi first r dk = dk).symm.trans HO.out)
          exact bodyPost_ret (results_none rfl _ _ _) rfl ⟨rfl, by rw [← hst.out]; exact SK2.out.drewN _⟩
        · have hn : (!decide (G (first + r) < G (first + c1))) = false := by assumption
          have hl2 : G (first + r) < G (first + c1) := by simpa using hn
          have hst : Hid (Sort.siftDown ltInt hi first c1 (swp dk (first + r) (first + c1)) = Sort.siftDown ltInt hi first lo d) := hgo'.out c1 (Lib.hid (by have hcc := hc1'.out; subst hcc; exact sd_left_go ltInt dk (by omega) hcmp.out (by rw [← HG.out, ← HG.out]; exact decide_eq_true hl2)))
          go_region
          all_goals go_wp2
          go_roundw
          case rel => exact ⟨c1, swp dk (first + r) (first + c1), rfl, by omega, by rw [size_swp]; exact hsk, Lib.hid (SK2.out.swp RR.out _ HG.out (by omega) (by omega)), hst⟩
          case measure => simp [intOf]; omega
end Go.Proofs.YtpchncpcckfghaaGreat
namespace Go.Proofs.YtpchncpcckfghaaGreat
open Go.RowKit Go.Sort
set_option linter.unusedVariables false
set_option linter.unusedSimpArgs false
set_option maxRecDepth 1000000 in
set_option maxHeartbeats 16000000 in
theorem uheap_any (blk off cap a b : Nat) (d0 d : Array Int) (w0 w : World) (R : RU w0 blk off d0) (hs : d.size = d0.size) (S : SU w0 blk off d w) (hab : a ≤ b) (hb : b ≤ d.size) (hsz : d.size ≤ 1000000) :
    Calls Tryz.prog 82 #[.slice (some ⟨blk, off, none⟩) d.size cap, .int .i64 a, .int .i64 b] w fun e w' => e = .returned (.tuple #[]) ∧ SU w0 blk off (Sort.heapSort ltInt d a b) w' := by
  have S0 := Lib.hid S
  have RR := Lib.hid R
  have HS := Lib.hid hs
  obtain ⟨n, hn⟩ : ∃ n, n = b - a := ⟨_, rfl⟩
  have hnz : (b : Int) - (a : Int) = (n : Int) := by omega
  have hbn : a + n ≤ d.size := by omega
  have hbn0 : n ≤ 1000000 := by omega
  have hfin : Hid (Sort.heapSort ltInt d a b = heapPop ltInt a n (heapBuild ltInt n a ((n - 1) / 2 + 1) d)) := Lib.hid (by unfold Sort.heapSort; rw [← hn])
  obtain ⟨m, hm⟩ : ∃ m, m = (n - 1) / 2 + 1 := ⟨_, rfl⟩
  have hmz : ((n : Int) - 1).tdiv 2 = (m : Int) - 1 := by have := half_start hab; rw [hnz] at this; rw [this, hm, hn]
  have hmn : m ≤ n + 1 := by omega
  rw [← hm] at hfin
  clear S R hs hn hm
  go_enter Tryz.func82, Tryz.ntmps82
  go_wp2
  go_loopw [9] (fun vi wr => ∃ (k : Nat) (dk : Array Int), vi = .int .i64 ((k : Int) - 1) ∧ k ≤ m ∧ dk.size = d.size ∧ Hid (SU w0 blk off dk wr) ∧ Hid (heapBuild ltInt n a k dk = heapBuild ltInt n a m d)) (fun vi _ => (intOf vi + 1).toNat)
  case atStart => exact ⟨m, d, by first | rfl | rw [hmz], Nat.le_refl _, rfl, S0, Lib.hid rfl⟩
  case round =>
    clear S0
    obtain ⟨k, dk, rfl, hk, hsk, SK, HO⟩ := hrel
    by_cases h0 : k = 0
    · have HO2 : Hid (heapBuild ltInt n a m d = dk) := Lib.hid (by rw [← HO.out, h0]; rfl)
      clear HO
      obtain ⟨z, hz⟩ : ∃ z : Int, (k : Int) - 1 = z := ⟨_, rfl⟩
      rw [hz]
      have hzn : ¬ (0 : Int) ≤ z := by omega
      clear hz hk h0
      go_wp2
      go_loopw [10] (fun vi wr => ∃ (k : Nat) (dj : Array Int), vi = .int .i64 ((k : Int) - 1) ∧ k ≤ n ∧ dj.size = d.size ∧ Hid (SU w0 blk off dj wr) ∧ Hid (heapPop ltInt a k dj = heapPop ltInt a n dk)) (fun vi _ => (intOf vi + 1).toNat)
      case atStart => exact ⟨n, dk, rfl, Nat.le_refl _, hsk, SK, Lib.hid rfl⟩
      case round =>
        clear SK
        obtain ⟨k, dj, rfl, hk2, hsj, SJ, HP⟩ := hrel
        by_cases h0 : k = 0
        · have hfn : Hid (Sort.heapSort ltInt d a b = dj) := Lib.hid (by rw [hfin.out, HO2.out, ← HP.out, h0]; rfl)
          obtain ⟨y, hy⟩ : ∃ y : Int, (k : Int) - 1 = y := ⟨_, rfl⟩
          rw [hy]
          have hyn : ¬ (0 : Int) ≤ y := by omega
          clear hy h0
          go_wp2
          go_end0
          exact ⟨rfl, by rw [hfn.out]; exact SJ.out⟩
        · obtain ⟨q, rfl⟩ : ∃ q, k = q + 1 := ⟨k - 1, by omega⟩
          have hqz : ((q + 1 : Nat) : Int) - 1 = (q : Int) := by omega
          have hq0 : (0 : Int) ≤ (q : Int) := by omega
          obtain ⟨G, hG⟩ : ∃ G : Nat → Int, ∀ t, G t = dj[t]! := ⟨fun t => dj[t]!, fun _ => rfl⟩
          obtain ⟨hcw, hfw⟩ := SJ.out.cells RR.out (by have := HS.out; omega) G hG hsj
          obtain ⟨u1, hu1⟩ := SJ.out.c2 RR.out (by rw [hsj]; exact HS.out) a (a + q) (by omega) (by omega) (.int .u64 (G (a + q)))
          have HG := Lib.hid hG
          clear hG
          have hstep : Hid (heapPop ltInt a q (Sort.siftDown ltInt q a 0 (swp dj a (a + q))) = heapPop ltInt a n dk) := HP
          have hsw : (swp dj a (a + q)).size = d.size := by rw [size_swp]; exact hsj
          have hss : (Sort.siftDown ltInt q a 0 (swp dj a (a + q))).size = d.size := by rw [size_siftDown ltInt q a _ 0 _ (Nat.le_refl _)]; exact hsw
          have hsft := Lib.hid (fun W S => usift_any blk off cap 0 q a d0 (swp dj a (a + q)) w0 W RR.out (by rw [hsw]; exact HS.out) S (Nat.zero_le _) (by omega) (by omega))
          rw [hsw] at hsft
          rw [hqz]
          clear HP
          go_wp2
          go_region
          all_goals go_wp2_with fail
          refine (hsft.out _ (SJ.out.swp RR.out _ HG.out (by omega) (by omega))).mono ?_
          rintro e w9 ⟨rfl, s9⟩
          have S9 := Lib.hid s9
          clear s9 hsft hu1
          go_wp2
          go_roundw
          case rel => exact ⟨q, _, rfl, by omega, hss, S9, hstep⟩
          case measure => simp [intOf]
    · obtain ⟨q, rfl⟩ : ∃ q, k = q + 1 := ⟨k - 1, by omega⟩
      have hqz : ((q + 1 : Nat) : Int) - 1 = (q : Int) := by omega
      have hq0 : (0 : Int) ≤ (q : Int) := by omega
      have hstep : Hid (heapBuild ltInt n a q (Sort.siftDown ltInt n a q dk) = heapBuild ltInt n a m d) := HO
      have hss : (Sort.siftDown ltInt n a q dk).size = d.size := by rw [size_siftDown ltInt n a _ q _ (Nat.le_refl _)]; exact hsk
      have hsft := Lib.hid (usift_any blk off cap q n a d0 dk w0 wr RR.out (by rw [hsk]; exact HS.out) SK.out (by omega) (by omega) (by omega))
      rw [hsk] at hsft
      rw [hqz]
      clear HO SK
      go_wp2_with fail
      refine hsft.out.mono ?_
      rintro e w9 ⟨rfl, s9⟩
      have S9 := Lib.hid s9
      clear s9 hsft
      go_wp2
      go_roundw
      case rel => exact ⟨q, _, rfl, by omega, hss, S9, hstep⟩
      case measure => simp [intOf]
set_option maxRecDepth 1000000 in
set_option maxHeartbeats 16000000 in
theorem urev_any (blk off cap a b : Nat) (d0 d : Array Int) (w0 w : World) (R : RU w0 blk off d0) (hs : d.size = d0.size) (S : SU w0 blk off d w) (hab : a < b) (hb : b ≤ d.size) (hsz : d.size ≤ 1000000) :
    Calls Tryz.prog 85 #[.slice (some ⟨blk, off, none⟩) d.size cap, .int .i64 a, .int .i64 b] w fun e w' => e = .returned (.tuple #[]) ∧ ∃ d', PermIn a b d d' ∧ SU w0 blk off d' w' := by
  have S0 := Lib.hid S
  have RR := Lib.hid R
  have HS := Lib.hid hs
  clear S R hs
  go_enter Tryz.func85, Tryz.ntmps85
  go_wp2
  go_loopw [6, 7] (fun vi vj wr => ∃ (i j : Nat) (dk : Array Int), vi = .int .i64 i ∧ vj = .int .i64 j ∧ a ≤ i ∧ j < b ∧ i ≤ j + 1 ∧ Hid (PermIn a b d dk) ∧ Hid (SU w0 blk off dk wr)) (fun vi vj _ => (intOf vj + 1).toNat - (intOf vi).toNat)
  case atStart => exact ⟨a, b - 1, d, rfl, by congr 1; omega, Nat.le_refl _, by omega, by omega, Lib.hid (permIn_refl d a b), S0⟩
  case round =>
    clear S0
    obtain ⟨i, j, dk, rfl, rfl, hai, hjb, hij, HP, SK⟩ := hrel
    have hsk : dk.size = d.size := HP.out.1
    by_cases hlt : i < j
    · have hltz : (i : Int) < (j : Int) := by omega
      obtain ⟨G, hG⟩ : ∃ G : Nat → Int, ∀ t, G t = dk[t]! := ⟨fun t => dk[t]!, fun _ => rfl⟩
      obtain ⟨hcw, hfw⟩ := SK.out.cells RR.out (by have := HS.out; omega) G hG hsk
      have HG := Lib.hid hG
      clear hG
      go_wp2
      go_region
      all_goals go_wp2
      go_roundw
      case rel => exact ⟨i + 1, j - 1, swp dk i j, by go_num, by congr 1; omega, by omega, by omega, by omega, Lib.hid (permIn_trans _ _ _ _ _ HP.out (swp_permIn dk a b i j hai (by omega) (by omega) hjb (by omega))), Lib.hid (SK.out.swp RR.out _ HG.out (by omega) (by omega))⟩
      case measure => simp [intOf]; omega
    · have hltz : ¬ (i : Int) < (j : Int) := by omega
      go_wp2
      go_end0
      exact ⟨rfl, dk, HP.out, SK.out⟩
end Go.Proofs.YtpchncpcckfghaaGreat
namespace Go.Proofs.YtpchncpcckfghaaGreat
open Go.RowKit Go.Sort
set_option linter.unusedVariables false
set_option linter.unusedSimpArgs false
def CU (w0 : World) (blk off : Nat) (dk : Array Int) (g : Nat) (s : Nat) (W : World) : Prop := Cnt1 encU w0 blk off dk g s W
theorem CU.box {w0 W : World} {blk off g s : Nat} {dk : Array Int} (h : CU w0 blk off dk g s W) : W.cell? ⟨g, 0, none⟩ = some (.int .i64 s) ∧ W.frozen? ⟨g, 0, none⟩ = false := ⟨h.2.1, h.2.2.1⟩
theorem CU.drewN {w0 W : World} {blk off g s : Nat} {dk : Array Int} (h : CU w0 blk off dk g s W) (n : Nat) : CU w0 blk off dk g s (W.drewN n) := by
  have := Cnt1.grown h n #[]
  rwa [grow_empty] at this
set_option maxRecDepth 1000000 in
set_option maxHeartbeats 16000000 in
theorem uorder_any (blk off cap a b g s : Nat) (d0 d : Array Int) (w0 w : World) (R : RU w0 blk off d0) (hs : d.size = d0.size) (S : CU w0 blk off d g s w) (ha : a < d.size) (hb : b < d.size) (hsz : d.size ≤ 1000000) (hss : s ≤ 1000) :
    Calls Tryz.prog 136 #[.slice (some ⟨blk, off, none⟩) d.size cap, .int .i64 a, .int .i64 b, .pointer (some ⟨g, 0, none⟩)] w fun e w' => ∃ p q s' : Nat, e = .returned (.tuple #[.int .i64 p, .int .i64 q]) ∧ ((p = a ∧ q = b) ∨ (p = b ∧ q = a)) ∧ s' ≤ s + 1 ∧ CU w0 blk off d g s' w' := by
  have S0 := Lib.hid S
  obtain ⟨G, hG⟩ : ∃ G : Nat → Int, ∀ t, G t = d[t]! := ⟨fun t => d[t]!, fun _ => rfl⟩
  obtain ⟨hcw, hfw⟩ := SU.cells S.1 R hs G hG rfl
  obtain ⟨hc, hf⟩ := S.box
  have hsz' : (s : Int) ≤ 1000 := by omega
  clear S R hs hG
  go_enter Tryz.func136, Tryz.ntmps136
  go_wp2
  go_quiet (first | (go_at_call 60; exact quiet_mine (uless_any _ _ _)))
  go_wp2
  · exact bodyPost_ret (results_tmp2 rfl _ _ _) rfl ⟨b, a, s + 1, rfl, .inr ⟨rfl, rfl⟩, Nat.le_refl _, by have := Cnt1.bump (S0.out.drewN nq) (s + 1); trace_state; exact this⟩
  · exact bodyPost_ret (results_tmp2 rfl _ _ _) rfl ⟨a, b, s, rfl, .inl ⟨rfl, rfl⟩, Nat.le_succ _, S0.out.drewN nq⟩
set_option maxRecDepth 1000000 in
set_option maxHeartbeats 16000000 in
theorem umedian_any (blk off cap a b c g s : Nat) (d0 d : Array Int) (w0 w : World) (R : RU w0 blk off d0) (hs : d.size = d0.size) (S : CU w0 blk off d g s w) (lo hi : Nat) (ha : lo ≤ a ∧ a < hi) (hb : lo ≤ b ∧ b < hi) (hc : lo ≤ c ∧ c < hi) (hh : hi ≤ d.size) (hsz : d.size ≤ 1000000) (hss : s ≤ 900) :
    Calls Tryz.prog 110 #[.slice (some ⟨blk, off, none⟩) d.size cap, .int .i64 a, .int .i64 b, .int .i64 c, .pointer (some ⟨g, 0, none⟩)] w fun e w' => ∃ p s' : Nat, e = .returned (.int .i64 p) ∧ lo ≤ p ∧ p < hi ∧ s' ≤ s + 3 ∧ CU w0 blk off d g s' w' := by
  have q := Lib.hid (fun x y s W S hx hy h => uorder_any blk off cap x y g s d0 d w0 W R hs S hx hy hsz h)
  have S0 := Lib.hid S
  clear S R hs
  go_enter Tryz.func110, Tryz.ntmps110
  go_wp2_with fail
  refine (q.out a b s _ S0.out (by omega) (by omega) (by omega)).mono ?_
  rintro e w1 ⟨p1, q1, s1, rfl, h1, hs1, S1⟩
  have S1' := Lib.hid S1
  clear S1 S0
  have hp1 : lo ≤ p1 ∧ p1 < hi := by omega
  have hq1 : lo ≤ q1 ∧ q1 < hi := by omega
  clear h1 ha hb
  go_wp2_with fail
  refine (q.out q1 c s1 _ S1'.out (by omega) (by omega) (by omega)).mono ?_
  rintro e w2 ⟨p2, q2, s2, rfl, h2, hs2, S2⟩
  have S2' := Lib.hid S2
  clear S2 S1'
  have hp2 : lo ≤ p2 ∧ p2 < hi := by omega
  clear h2 hc hq1
  go_wp2_with fail
  refine (q.out p1 p2 s2 _ S2'.out (by omega) (by omega) (by omega)).mono ?_
  rintro e w3 ⟨p3, q3, s3, rfl, h3, hs3, S3⟩
  have S3' := Lib.hid S3
  clear S3 S2'
  have hq3 : lo ≤ q3 ∧ q3 < hi := by omega
  clear h3
  go_wp2
  exact bodyPost_ret (results_tmp rfl _ _ _) rfl ⟨q3, s3, rfl, hq3.1, hq3.2, by omega, S3'.out⟩
set_option maxRecDepth 1000000 in
set_option maxHeartbeats 16000000 in
theorem umedadj_any (blk off cap a g s : Nat) (d0 d : Array Int) (w0 w : World) (R : RU w0 blk off d0) (hs : d.size = d0.size) (S : CU w0 blk off d g s w) (lo hi : Nat) (ha : lo + 1 ≤ a ∧ a + 1 < hi) (hh : hi ≤ d.size) (hsz : d.size ≤ 1000000) (hss : s ≤ 900) :
    Calls Tryz.prog 109 #[.slice (some ⟨blk, off, none⟩) d.size cap, .int .i64 a, .pointer (some ⟨g, 0, none⟩)] w fun e w' => ∃ p s' : Nat, e = .returned (.int .i64 p) ∧ lo ≤ p ∧ p < hi ∧ s' ≤ s + 3 ∧ CU w0 blk off d g s' w' := by
  obtain ⟨p, rfl⟩ : ∃ p, a = p + 1 := ⟨a - 1, by omega⟩
  have q := Lib.hid (umedian_any blk off cap p (p + 1) (p + 2) g s d0 d w0 w R hs S lo hi (by omega) (by omega) (by omega) hh hsz hss)
  have e1 : ((p + 1 : Nat) : Int) - 1 = (p : Int) := by omega
  have e2 : ((p + 1 : Nat) : Int) + 1 = ((p + 2 : Nat) : Int) := by omega
  clear S R hs
  obtain ⟨x, hx⟩ : ∃ x : Int, x = ((p + 1 : Nat) : Int) := ⟨_, rfl⟩
  rw [← hx] at e1 e2 q ⊢
  have hxb : 0 ≤ x ∧ x ≤ 1000000 := by omega
  clear hx
  go_enter Tryz.func109, Tryz.ntmps109
  go_wp2_with fail
  refine q.out.mono ?_
  rintro e w1 ⟨p1, s1, rfl, h1, h2, h3, S1⟩
  go_wp2
  exact bodyPost_ret (results_tmp rfl _ _ _) rfl ⟨p1, s1, rfl, h1, h2, h3, S1⟩
end Go.Proofs.YtpchncpcckfghaaGreat
namespace Go.Proofs.YtpchncpcckfghaaGreat
open Go.RowKit Go.Sort
set_option linter.unusedVariables false
set_option linter.unusedSimpArgs false
set_option maxRecDepth 1000000 in
set_option maxHeartbeats 16000000 in
theorem uchoose_any (blk off cap a b : Nat) (d0 d : Array Int) (w0 w : World) (R : RU w0 blk off d0) (hs : d.size = d0.size) (S : SU w0 blk off d w) (hab : a < b) (hb : b ≤ d.size) (hsz : d.size ≤ 1000000) :
    Calls Tryz.prog 84 #[.slice (some ⟨blk, off, none⟩) d.size cap, .int .i64 a, .int .i64 b] w fun e w' => ∃ p h : Nat, e = .returned (.tuple #[.int .i64 p, .int .i64 h]) ∧ a ≤ p ∧ p < b ∧ SU w0 blk off d w' := by
  have RR := Lib.hid R
  have HS := Lib.hid hs
  obtain ⟨V, hV⟩ : ∃ V, V = w.alloc (.cells #[.int .i64 0] 3) := ⟨_, rfl⟩
  obtain ⟨g, hg⟩ : ∃ g, g = w.heap.size := ⟨_, rfl⟩
  have S0 : Hid (CU w0 blk off d g 0 V) := Lib.hid (by rw [hV, hg]; exact Cnt1.start S _)
  have q3 := Lib.hid (fun x y z s W S hx hy hz h => umedian_any blk off cap x y z g s d0 d w0 W R hs S a b hx hy hz hb hsz h)
  have q1 := Lib.hid (fun x s W S hx h => umedadj_any blk off cap x g s d0 d w0 W R hs S a b hx hb hsz h)
  obtain ⟨L, hL⟩ : ∃ L, L = b - a := ⟨_, rfl⟩
  obtain ⟨q, hq⟩ : ∃ q, q = L / 4 := ⟨_, rfl⟩
  have hLz : (b : Int) - (a : Int) = (L : Int) := by omega
  have hqz : (L : Int).tdiv 4 = (q : Int) := by rw [Int.tdiv_eq_ediv_of_nonneg (by omega)]; omega
  obtain ⟨i, hi⟩ : ∃ i, i = a + q := ⟨_, rfl⟩
  obtain ⟨j, hj⟩ : ∃ j, j = a + q * 2 := ⟨_, rfl⟩
  obtain ⟨k, hk⟩ : ∃ k, k = a + q * 3 := ⟨_, rfl⟩
  have hiz : (a : Int) + (q : Int) = (i : Int) := by omega
  have hjz : (a : Int) + (q : Int) * 2 = (j : Int) := by omega
  have hkz : (a : Int) + (q : Int) * 3 = (k : Int) := by omega
  have hV' := Lib.hid hV
  have hg' := Lib.hid hg
  have hab1 : (a : Int) ≤ 1000000 := by omega
  have hbb1 : (b : Int) ≤ 1000000 := by omega
  have hqb : (q : Int) ≤ 1000000 := by omega
  have B50 : Hid (50 ≤ L → (a + 1 ≤ i ∧ i + 1 < b) ∧ (a + 1 ≤ j ∧ j + 1 < b) ∧ (a + 1 ≤ k ∧ k + 1 < b)) := Lib.hid (fun h => by omega)
  have B8 : Hid (8 ≤ L → (a ≤ i ∧ i < b) ∧ (a ≤ j ∧ j < b) ∧ (a ≤ k ∧ k < b)) := Lib.hid (fun h => by omega)
  have B0 : Hid (a ≤ j ∧ j < b) := Lib.hid (by omega)
  have hb' := Lib.hid hb
  have hab' := Lib.hid hab
  clear S R hs hV hg hL hq hi hj hk
  go_enter Tryz.func84, Tryz.ntmps84
  go_upto_region 3 with (fail)
  rw [← hV'.out, ← hg'.out]
  clear hV' hg'
  by_cases h8 : 8 ≤ L
  · have h8z : (8 : Int) ≤ (L : Int) := by omega
    by_cases h50 : 50 ≤ L
    · have h50z : (50 : Int) ≤ (L : Int) := by omega
      go_wp2_with fail
      refine (q1.out i 0 _ S0.out (B50.out h50).1 (by omega)).mono ?_
      rintro e w1 ⟨p1, s1, rfl, h1, h2, h3, S1⟩
      have S1' := Lib.hid S1
      clear S1 S0
      go_wp2_with fail
      refine (q1.out j s1 _ S1'.out (B50.out h50).2.1 (by omega)).mono ?_
      rintro e w2 ⟨p2, s2, rfl, h4, h5, h6, S2⟩
      have S2' := Lib.hid S2
      clear S2 S1'
      go_wp2_with fail
      refine (q1.out k s2 _ S2'.out (B50.out h50).2.2 (by omega)).mono ?_
      rintro e w3 ⟨p3, s3, rfl, h7, h9, h10, S3⟩
      have S3' := Lib.hid S3
      clear S3 S2'
      go_wp2_with fail
      refine (q3.out p1 p2 p3 s3 _ S3'.out ⟨h1, h2⟩ ⟨h4, h5⟩ ⟨h7, h9⟩ (by omega)).mono ?_
      rintro e w4 ⟨p4, s4, rfl, h11, h12', h13, S4⟩
      have S4' := Lib.hid S4
      clear S4 S3'
      obtain ⟨hc, hf⟩ := S4'.out.box
      have SF := Lib.hid S4'.out.1
      by_cases h0 : s4 = 0
      · have h0b : ((s4 : Int) == 0) = true := by simp; omega
        clear S4'
        go_wp2
        exact bodyPost_ret (results_tmp2 rfl _ _ _) rfl ⟨p4, 1, rfl, h11, h12', SF.out⟩
      · have h0b : ((s4 : Int) == 0) = false := by simp; omega
        by_cases h12 : s4 = 12
        · have h12b : ((s4 : Int) == 12) = true := by simp; omega
          clear S4'
          go_wp2
          exact bodyPost_ret (results_tmp2 rfl _ _ _) rfl ⟨p4, 2, rfl, h11, h12', SF.out⟩
        · have h12b : ((s4 : Int) == 12) = false := by simp; omega
          clear S4'
          go_wp2
          exact bodyPost_ret (results_tmp2 rfl _ _ _) rfl ⟨p4, 0, rfl, h11, h12', SF.out⟩
    · have h50z : ¬ (50 : Int) ≤ (L : Int) := by omega
      go_wp2_with fail
      refine (q3.out i j k 0 _ S0.out (B8.out h8).1 (B8.out h8).2.1 (B8.out h8).2.2 (by omega)).mono ?_
      rintro e w4 ⟨p4, s4, rfl, h11, h12', h13, S4⟩
      have S4' := Lib.hid S4
      clear S4 S0
      obtain ⟨hc, hf⟩ := S4'.out.box
      have SF := Lib.hid S4'.out.1
      by_cases h0 : s4 = 0
      · have h0b : ((s4 : Int) == 0) = true := by simp; omega
        clear S4'
        go_wp2
        exact bodyPost_ret (results_tmp2 rfl _ _ _) rfl ⟨p4, 1, rfl, h11, h12', SF.out⟩
      · have h0b : ((s4 : Int) == 0) = false := by simp; omega
        by_cases h12 : s4 = 12
        · have h12b : ((s4 : Int) == 12) = true := by simp; omega
          clear S4'
          go_wp2
          exact bodyPost_ret (results_tmp2 rfl _ _ _) rfl ⟨p4, 2, rfl, h11, h12', SF.out⟩
        · have h12b : ((s4 : Int) == 12) = false := by simp; omega
          clear S4'
          go_wp2
          exact bodyPost_ret (results_tmp2 rfl _ _ _) rfl ⟨p4, 0, rfl, h11, h12', SF.out⟩
  · have h8z : ¬ (8 : Int) ≤ (L : Int) := by omega
    obtain ⟨hc, hf⟩ := S0.out.box
    have SF := Lib.hid S0.out.1
    have hc' : V.cell? ⟨g, 0, none⟩ = some (.int .i64 0) := hc
    clear S0 hc
    go_wp2
    refine bodyPost_ret (results_tmp2 rfl _ _ _) rfl ?_
    exact ⟨j, ⟨1, rfl⟩, B0.out.1, B0.out.2, SF.out⟩
end Go.Proofs.YtpchncpcckfghaaGreat
namespace Go.Proofs.YtpchncpcckfghaaGreat
open Go.RowKit Go.Sort
set_option linter.unusedVariables false
set_option linter.unusedSimpArgs false
set_option maxRecDepth 1000000 in
set_option maxHeartbeats 32000000 in
theorem unext_any (g X : Nat) (hX : X < 18446744073709551616) (w : World) (hc : w.cell? ⟨g, 0, none⟩ = some (.int .u64 X)) (hf : w.frozen? ⟨g, 0, none⟩ = false) :
    Calls Tryz.prog 108 #[.pointer (some ⟨g, 0, none⟩)] w fun e w' => ∃ Y : Nat, e = .returned (.int .u64 Y) ∧ Y < 18446744073709551616 ∧ w' = (w.setCell ⟨g, 0, none⟩ (.int .u64 Y)).drewN 3 := by
  obtain ⟨A, hA⟩ : ∃ A : Nat, A = X ^^^ (X * 8192 % 18446744073709551616) := ⟨_, rfl⟩
  obtain ⟨B, hB⟩ : ∃ B : Nat, B = A ^^^ (A / 128) := ⟨_, rfl⟩
  obtain ⟨C, hC⟩ : ∃ C : Nat, C = B ^^^ (B * 131072 % 18446744073709551616) := ⟨_, rfl⟩
  have lA : A < 18446744073709551616 := by rw [hA]; exact Nat.xor_lt_two_pow (n := 64) (by omega) (by omega)
  have lB : B < 18446744073709551616 := by rw [hB]; exact Nat.xor_lt_two_pow (n := 64) (by omega) (by omega)
  have lC : C < 18446744073709551616 := by rw [hC]; exact Nat.xor_lt_two_pow (n := 64) (by omega) (by omega)
  have e1 : bits .xor .u64 (X : Int) (IntKind.u64.wrap ((X : Int) * 8192)) = (A : Int) := by
    rw [IntKind.wrap_u64, show ((X : Int) * 8192 % 18446744073709551616) = ((X * 8192 % 18446744073709551616 : Nat) : Int) by omega, bits_xor_u64_nat _ _ hX (by omega), hA]
  have e2 : bits .xor .u64 (A : Int) ((A : Int) / 128) = (B : Int) := by
    rw [show ((A : Int) / 128) = ((A / 128 : Nat) : Int) by omega, bits_xor_u64_nat _ _ lA (by omega), hB]
  have e3 : bits .xor .u64 (B : Int) (IntKind.u64.wrap ((B : Int) * 131072)) = (C : Int) := by
    rw [IntKind.wrap_u64, show ((B : Int) * 131072 % 18446744073709551616) = ((B * 131072 % 18446744073709551616 : Nat) : Int) by omega, bits_xor_u64_nat _ _ lB (by omega), hC]
  clear hA hB hC
  have hss : ∀ v v', (w.setCell ⟨g, 0, none⟩ v).setCell ⟨g, 0, none⟩ v' = w.setCell ⟨g, 0, none⟩ v' := setCell_setCell w g 0
  go_enter Tryz.func108, Tryz.ntmps108
  go_wp2
  go_region
  all_goals go_wp2
  all_goals go_region
  all_goals go_wp2
  all_goals go_region
  all_goals go_wp2
  go_ret
  exact ⟨C, rfl, lC, rfl⟩
set_option maxRecDepth 1000000 in
set_option maxHeartbeats 4000000 in
theorem unpow_any (n : Nat) (hn : n ≤ 1000000) (w : World) :
    Calls Tryz.prog 107 #[.int .i64 n] w fun e w' => ∃ m : Nat, e = .returned (.int .u64 m) ∧ n < m ∧ (0 < n → m ≤ 2 * n) ∧ w' = w := by
  have hb : ∀ W, Calls Tryz.prog 63 #[.int .u64 (n : Int)] W fun e w' => e = .returned (.int .i64 (bitsLen n : Nat)) ∧ w' = W := fun W => by
    have h := Tryz.bits_Len (n : Int) W (by omega) (by omega)
    rwa [Int.toNat_natCast, bitLen_eq _ (by omega)] at h
  have hnz : (n : Int) ≤ 1000000 := by omega
  have hk : bitsLen n ≤ 62 := (bitsLen_le_iff n 62).2 (by omega)
  have hp := wrap_two_pow (bitsLen n) hk
  have hlt := lt_two_pow_bitsLen n
  have hle : 0 < n → 1 <<< bitsLen n ≤ 2 * n := fun h0 => by
    rw [Nat.shiftLeft_eq, Nat.one_mul]
    have h1 : ¬ n < 2 ^ (bitsLen n - 1) := fun h => by
      have := (bitsLen_le_iff n (bitsLen n - 1)).2 h
      have h2 : 0 < bitsLen n := by
        apply Nat.pos_of_ne_zero
        intro hz
        rw [hz] at hlt
        omega
      omega
    have h2 : 0 < bitsLen n := by
      apply Nat.pos_of_ne_zero
      intro hz
      rw [hz] at hlt
      omega
    have h3 : 2 ^ bitsLen n = 2 * 2 ^ (bitsLen n - 1) := by
      rw [show bitsLen n = bitsLen n - 1 + 1 by omega, Nat.pow_succ]
      simp
      omega
    omega
  rw [← Nat.one_mul (2 ^ bitsLen n), ← Nat.shiftLeft_eq] at hlt
  go_enter Tryz.func107, Tryz.ntmps107
  go_wp2_with (first | (refine (hb _).mono ?_; rintro e w' ⟨rfl, rfl⟩))
  go_ret
  exact ⟨_, rfl, hlt, hle, rfl⟩
end Go.Proofs.YtpchncpcckfghaaGreat
