/-
  Words and walks under the law's proof.
-/
import Derived.Lib.LaidTab
import Derived.Test.YtknnjkhocbpohaaDoorQD01
import Derived.Test.YtknnjkhocbpohaaDoorQD03
namespace Go.Proofs.YtknnjkhocbpohaaDoor
open Go.RowKit
set_option linter.unusedVariables false
set_option linter.unusedSimpArgs false
def NotsE (w : World) (l : List TmD) (E : Int) (e : Ending) (w' : World) : Prop := ∃ a c, e = .returned (.tuple #[.slice a l.length c, .int .i64 E]) ∧ RO tmC w' a l.length c l ∧ Below w.heap.size w w'
theorem tb_new {w : World} {a : Option Addr} {n c : Nat} {l : List TmD} (hr : RO tmC w a n c l) : TB (w.alloc (.cells #[.slice a n c, .slice none 0 0] 52)) w.heap.size a n c l (.slice none 0 0) 0 [] :=
  ⟨Holds.new _ _ _, hr.len, hr.cap, hr.max, hr.sees.below (below_allocB (Below.refl _ _) (Nat.le_refl _) _), own_tm_nil _ _⟩
set_option maxRecDepth 100000 in
set_option maxHeartbeats 4000000 in
theorem qnot_ok (w : World) (a : Option Addr) (n c : Nat) (f : FT) (hf : f.good) (h0 : filtE f.ser = 0) (hr : RO tmC w a n c f.ser) (hs : ∀ t ∈ f.ser, tmS t) (ht : ATab w) : Calls Tryd.prog 20 #[.slice a n c] w (NotsE w (notT true f).ser 0) := by
  have qf := Lib.hid (qfilter_any w a n c f.ser hr hs ht)
  have h128 : f.ser.length ≤ 128 := by
    obtain ⟨_, _, _, _, h⟩ := filtE_tree h0
    exact h
  rw [h0] at qf
  have qn := Lib.hid (fun W (hb : Below w.heap.size w W) => by
    have hT := tb_new (hr.below hb)
    have q := (turn_any W.heap.size f hf true _ a n c [] _ 0 [] (by rw [List.append_nil]; exact hT) (by simp; omega)).1
    rw [List.nil_append] at q
    exact q)
  generalize (notT true f).ser = X at *
  clear h0 hr hs ht hf h128
  go_enter Tryd.func20, Tryd.ntmps20
  go_wp2_with fail
  refine qf.out.mono ?_
  rintro e u1 ⟨rfl, b1⟩
  have q2 := Lib.hid (qn.out u1 b1)
  have hb1 := Lib.hid b1
  clear b1 qf qn
  obtain ⟨U, hU⟩ : ∃ U, U = u1.alloc (.cells #[.slice a n c, .slice none 0 0] 52) := ⟨_, rfl⟩
  have bU : Below u1.heap.size u1 U := by rw [hU]; exact box_below _ _ _
  have q3 : Hid (Calls Tryd.prog 28 #[.pointer (some ⟨u1.heap.size, 0, none⟩), .bool true] U (TurnE U u1.heap.size [] X)) := Lib.hid (by rw [hU]; exact q2.out)
  have hU' := Lib.hid hU
  have bU' := Lib.hid bU
  clear hU bU q2
  go_wp2_with fail
  rw [← hU'.out]
  refine q3.out.mono ?_
  rintro e u2 ⟨rfl, b2, a2, c2, v2, m2, hT⟩
  have hf := Lib.hid (hb1.out.trans ((bU'.out.trans b2).mono hb1.out.size))
  obtain ⟨a3, c3, hv3, hro⟩ := tro_own hT.own
  have hml := hT.olen
  subst hv3
  have k1 := hT.blk.cell 1
  simp at k1
  have hro' := Lib.hid hro
  have hml' := Lib.hid hml
  clear b2 hT q3 hU' bU' hb1 hro hml
  go_wp2
  go_ret2
  exact ⟨a3, c3, by rw [← hml'.out]; rfl, by rw [← hml'.out]; exact hro'.out, hf.out⟩
theorem part_bin {o : Int} {x y : FT} (ho : o = 4 ∨ o = 5) (h : x.good) : partA (opT o :: (x.ser ++ y.ser)) = x.ser ∧ partB (opT o :: (x.ser ++ y.ser)) = y.ser ∧ partIs (opT o :: (x.ser ++ y.ser)) = true := by
  have e : 3 ≤ ((opT o :: (x.ser ++ y.ser)).getD 0 tm0).op := by show (3 : Int) ≤ o; omega
  have ht := takeL_ser x h y.ser
  refine ⟨?_, ?_, by unfold partIs; rw [decide_eq_true e]⟩
  · unfold partA
    rw [if_pos e, List.drop_succ_cons, List.drop_zero, ht, Nat.add_comm, List.take_succ_cons, List.take_left, List.drop_succ_cons, List.drop_zero]
  · unfold partB
    rw [if_pos e, List.drop_succ_cons, List.drop_zero, ht, Nat.add_comm, List.drop_succ_cons, List.drop_left]
end Go.Proofs.YtknnjkhocbpohaaDoor
namespace Go.Proofs.YtknnjkhocbpohaaDoor
open Go.RowKit
set_option linter.unusedVariables false
set_option linter.unusedSimpArgs false
def cL : TmD := ⟨2, 4, 5, 3, eB⟩
def fL : FT := .bin 4 (.leaf cL) (.neg (.leaf (opT 1)))
theorem fL_good : fL.good := by
  refine ⟨.inl rfl, ⟨by decide +kernel, .inr rfl⟩, ⟨by decide +kernel, .inl rfl⟩⟩
theorem fL_filt : filtE fL.ser = 0 := by rw [filtE_ser fL_good]; decide
theorem fL_nest : nestN fL.ser = 3 := by
  unfold nestN
  rw [if_pos fL_filt]
  have := takeL_ser fL fL_good []
  rw [List.append_nil] at this
  rw [this]
  rfl
theorem fL_part : partA fL.ser = [cL] ∧ partB fL.ser = [opT 3, opT 1] ∧ partIs fL.ser = true := part_bin (o := 4) (x := .leaf cL) (y := .neg (.leaf (opT 1))) (.inl rfl) ⟨by decide +kernel, .inr rfl⟩
theorem fL_not : (notT true fL).ser = [opT 5, opT 3, cL, opT 1] := rfl
theorem two_bad : filtE [opT 4, cL] = 320 := by
  have h : takeL [opT 4, cL] = (0, 0) := by
    have h1 : takeL [cL] = (1, 1) := takeL_ser (.leaf cL) ⟨by decide +kernel, .inr rfl⟩ []
    rw [takeL_cons, if_pos (right_opT (by omega)), if_neg (by decide), h1, if_neg (by decide), if_neg (by decide)]
    rfl
  unfold filtE
  rw [if_neg (by decide), h, if_pos (.inl rfl)]
theorem plain_ok : chkQ ⟨[opT 1], 10, 0, 0, 100⟩ = 0 ∧ chkQ ⟨[opT 1], 10, 0, 0, 0⟩ = 320 := by
  have h1 : filtE [opT 1] = 0 := by
    have := filtE_ser (f := .leaf (opT 1)) ⟨by decide +kernel, .inl rfl⟩
    rw [show (FT.leaf (opT 1)).ser = [opT 1] from rfl] at this
    rw [this]
    decide
  exact ⟨by rw [chkQ_ok (by exact h1)]; decide, by rw [chkQ_ok (by exact h1)]; decide⟩
theorem ro_lit (w : World) (l : List TmD) (cs : Array Value) (n : Nat) (hc : cs.toList = l.flatMap tmC) (hn : n = l.length) (hm : n ≤ 1000) : RO tmC (w.alloc (.cells cs 38)) (some ⟨w.heap.size, 0, none⟩) n n l :=
  ⟨hn, Nat.le_refl _, by unfold maxLen; omega, by have := seesC_lit w 38 cs; rw [hc] at this; exact this⟩
theorem sm_lit {l : List TmD} (h : l.all (fun t => decide (t.txt.size ≤ 10)) = true) : ∀ t ∈ l, tmS t := by
  intro t ht
  have := List.all_eq_true.1 h t ht
  rw [decide_eq_true_eq] at this
  unfold tmS
  omega
set_option maxRecDepth 100000 in
set_option maxHeartbeats 8000000 in
theorem asklives_any (w : World) (ht : ATab w) : Calls Tryd.prog 8 #[] w (Gives (.bool true) w) := by
  obtain ⟨W1, hW1⟩ : ∃ W1, W1 = w.alloc (.cells #[.int .i64 2, .int .i64 4, .int .i64 5, .int .i64 3, .string ⟨#[]⟩] 38) := ⟨_, rfl⟩
  obtain ⟨W2, hW2⟩ : ∃ W2, W2 = W1.alloc (.cells #[.int .i64 4, .int .i64 0, .int .i64 0, .int .i64 0, .string ⟨#[]⟩, .int .i64 2, .int .i64 4, .int .i64 5, .int .i64 3, .string ⟨#[]⟩, .int .i64 3, .int .i64 0, .int .i64 0, .int .i64 0, .string ⟨#[]⟩, .int .i64 1, .int .i64 0, .int .i64 0, .int .i64 0, .string ⟨#[]⟩] 38) := ⟨_, rfl⟩
  have b1 : Below w.heap.size w W1 := by rw [hW1]; exact box_below _ _ _
  have b2 : Below W1.heap.size W1 W2 := by rw [hW2]; exact box_below _ _ _
  have b12 := b1.trans (b2.mono b1.size)
  have HC : Hid (Holds W2 w.heap.size 38 #[.int .i64 2, .int .i64 4, .int .i64 5, .int .i64 3, .string ⟨#[]⟩]) := Lib.hid (by rw [hW2, hW1]; exact (Holds.new _ _ _).alloc _)
  have z1 : W1.heap.size = w.heap.size + 1 := by rw [hW1]; simp
  have RL0 : RO tmC W2 (some ⟨w.heap.size + 1, 0, none⟩) 4 4 fL.ser := by rw [hW2, ← z1]; exact ro_lit W1 fL.ser _ 4 rfl rfl (by omega)
  have TW := Lib.hid (ht.on b12)
  have q3 := qparts_ok W2 _ 4 4 fL.ser RL0 (sm_lit (by decide +kernel)) TW.out fL_filt
  rw [fL_part.1, fL_part.2.1, fL_part.2.2] at q3
  have Q3 := Lib.hid q3
  have QN := Lib.hid (fun W (hr : RO tmC W (some ⟨w.heap.size + 1, 0, none⟩) 4 4 fL.ser) hT => qnot_ok W _ 4 4 fL fL_good fL_filt hr (sm_lit (by decide +kernel)) hT)
  rw [fL_not] at QN
  have RL := Lib.hid RL0
  have BL := Lib.hid b12
  have hh := Lib.hid (And.intro hW1 hW2)
  have hz := Lib.hid z1
  have c0 := HC.out.cell 0
  clear c0 hW1 hW2 b1 b2 b12 z1 RL0 q3 ht
  go_enter Tryd.func8, Tryd.ntmps8
  go_wp2_with fail
  rw [← hh.out.1, ← hh.out.2]
  with_reducible refine Q3.out.mono ?_
  rintro e u3 ⟨a3, c3, a4, c4, rfl, r3, r4, b3⟩
  have R3 := Lib.hid r3
  have R4 := Lib.hid r4
  replace RL := Lib.hid (RL.out.below b3)
  replace HC := Lib.hid (HC.out.below b3 HC.out.lt)
  replace TW := Lib.hid (TW.out.on b3)
  replace BL := Lib.hid (BL.out.trans (b3.mono BL.out.size))
  have QN2 := Lib.hid (QN.out u3 RL.out TW.out)
  clear Q3 QN r3 r4 b3 hh
  go_wp2_with fail
  with_reducible refine QN2.out.mono ?_
  rintro e u4 ⟨a5, c5, rfl, r5, b4⟩
  have R5 := Lib.hid r5
  replace R3 := Lib.hid (R3.out.below b4)
  replace R4 := Lib.hid (R4.out.below b4)
  replace RL := Lib.hid (RL.out.below b4)
  replace HC := Lib.hid (HC.out.below b4 HC.out.lt)
  replace TW := Lib.hid (TW.out.on b4)
  replace BL := Lib.hid (BL.out.trans (b4.mono BL.out.size))
  have QP := Lib.hid (qplain_any u4)
  clear QN2 r5 b4
  go_wp2_with fail
  with_reducible refine QP.out.mono ?_
  rintro e u5 ⟨a6, rfl, r6, b5⟩
  have R6 := Lib.hid r6
  replace R5 := Lib.hid (R5.out.below b5)
  replace R3 := Lib.hid (R3.out.below b5)
  replace R4 := Lib.hid (R4.out.below b5)
  replace RL := Lib.hid (RL.out.below b5)
  replace HC := Lib.hid (HC.out.below b5 HC.out.lt)
  replace TW := Lib.hid (TW.out.on b5)
  replace BL := Lib.hid (BL.out.trans (b5.mono BL.out.size))
  clear QP r6 b5
  go_wp2
  obtain ⟨V, hV⟩ : ∃ V, V = (u5.alloc (.cells #[.slice a6 1 1, .int .i64 10, .int .i64 0, .int .i64 0, .int .i64 100] 24)).alloc (.cells #[.slice a6 1 1, .int .i64 10, .int .i64 0, .int .i64 0, .int .i64 0] 24) := ⟨_, rfl⟩
  have bV : Below u5.heap.size u5 V := by rw [hV]; exact box2_below _ _ _ _ _
  have HQ : Hid (Holds V u5.heap.size 24 #[.slice a6 1 1, .int .i64 10, .int .i64 0, .int .i64 0, .int .i64 100]) := Lib.hid (by rw [hV]; exact (Holds.new _ _ _).alloc _)
  have HR : Hid (Holds V (u5.heap.size + 1) 24 #[.slice a6 1 1, .int .i64 10, .int .i64 0, .int .i64 0, .int .i64 0]) := Lib.hid (by
    rw [hV]
    have := Holds.new (u5.alloc (.cells #[.slice a6 1 1, .int .i64 10, .int .i64 0, .int .i64 0, .int .i64 100] 24)) 24 #[.slice a6 1 1, .int .i64 10, .int .i64 0, .int .i64 0, .int .i64 0]
    rwa [show (u5.alloc (.cells #[.slice a6 1 1, .int .i64 10, .int .i64 0, .int .i64 0, .int .i64 100] 24)).heap.size = u5.heap.size + 1 by simp] at this)
  replace R6 := Lib.hid (R6.out.below bV)
  replace R5 := Lib.hid (R5.out.below bV)
  replace R3 := Lib.hid (R3.out.below bV)
  replace R4 := Lib.hid (R4.out.below bV)
  replace RL := Lib.hid (RL.out.below bV)
  replace HC := Lib.hid (HC.out.below bV HC.out.lt)
  replace TW := Lib.hid (TW.out.on bV)
  replace BL := Lib.hid (BL.out.trans (bV.mono BL.out.size))
  have hV' := Lib.hid hV
  have hsz := Lib.hid bV.size
  obtain ⟨gq, hgq⟩ : ∃ gq, gq = u5.heap.size := ⟨_, rfl⟩
  rw [← hV, ← hgq]
  rw [← hgq] at HQ HR
  clear hV bV hV' hsz hgq
  obtain ⟨gl, hgl⟩ : ∃ gl, gl = w.heap.size + 1 := ⟨_, rfl⟩
  rw [← hgl] at RL
  rw [← hgl]
  clear hgl
  have R3a : Hid (RO tmC V a3 1 c3 [cL]) := R3
  have R5a : Hid (RO tmC V a5 4 c5 [opT 5, opT 3, cL, opT 1]) := R5
  obtain ⟨gc, hgc⟩ : ∃ gc, gc = w.heap.size := ⟨_, rfl⟩
  have BL' : Hid (Below w.heap.size w V) := BL
  rw [← hgc] at HC ⊢
  have hgc' := Lib.hid hgc
  clear hgc BL
  have F1 := Lib.hid (fun W (hW : Below V.heap.size V W) => by
    have q := qfilter_any W _ 4 4 fL.ser (RL.out.below hW) (sm_lit (by decide +kernel)) (TW.out.on hW)
    rw [fL_filt] at q
    exact q)
  have F5 := Lib.hid (fun W (hW : Below V.heap.size V W) => by
    have q := qnest_any W _ 4 4 fL.ser (RL.out.below hW) (sm_lit (by decide +kernel)) (TW.out.on hW)
    rw [fL_nest] at q
    exact q)
  have FS : Hid (∀ W A B n ca cb l, RO tmC W A n ca l → RO tmC W B n cb l → Calls Tryd.prog 19 #[.slice A n ca, .slice B n cb] W (Gives (.bool true) W)) := Lib.hid (fun W A B n ca cb l h1 h2 => by
    have q := tmSame_any A B n n ca cb l l W h1 h2
    rw [show sameT5 l l = true by unfold sameT5; simp] at q
    exact q.mono fun e w' h => drawnT_gives h)
  obtain ⟨a8, hc8, r8⟩ := ro_cut RL.out 0 2 (by omega) (by omega)
  have hcut : ∀ W, (Instr.slice 22 (.slice (some ⟨gl, 0, none⟩) 4 4) none (some (.int .i64 2)) none).run Tryd.prog W = .ok (.slice a8 2 4) W := ccut_h under_tm size_tm _ 4 4 2 hc8 (by omega)
  have R8 : Hid (RO tmC V a8 2 4 [opT 4, cL]) := Lib.hid r8
  have F38 := Lib.hid (fun W (hW : Below V.heap.size V W) => by
    have q := qfilter_any W _ 2 4 [opT 4, cL] (R8.out.below hW) (sm_lit (by decide +kernel)) (TW.out.on hW)
    rw [two_bad] at q
    exact q)
  have F43 := Lib.hid (fun W (hW : Below V.heap.size V W) => by
    have q := qcheck_any W _ 1 1 ⟨[opT 1], 10, 0, 0, 100⟩ (R6.out.below hW) (sm_lit (by decide +kernel)) (TW.out.on hW)
    rw [plain_ok.1] at q
    exact q)
  have F48 := Lib.hid (fun W (hW : Below V.heap.size V W) => by
    have q := qcheck_any W _ 1 1 ⟨[opT 1], 10, 0, 0, 0⟩ (R6.out.below hW) (sm_lit (by decide +kernel)) (TW.out.on hW)
    rw [plain_ok.2] at q
    exact q)
  have F58 := Lib.hid (fun W => qplain_any W)
  have F59 : Hid (∀ W A, Below V.heap.size V W → RO tmC W A 1 1 [opT 1] → Calls Tryd.prog 15 #[.agg #[.slice a6 1 1, .int .i64 10, .int .i64 0, .int .i64 0, .int .i64 100], .agg #[.slice A 1 1, .int .i64 10, .int .i64 0, .int .i64 0, .int .i64 100]] W (Gives (.bool true) W)) := Lib.hid (fun W A hW hA => by
    have q := qsame_any W a6 1 1 ⟨[opT 1], 10, 0, 0, 100⟩ A 1 1 ⟨[opT 1], 10, 0, 0, 100⟩ (R6.out.below hW) hA
    rw [show sameQ ⟨[opT 1], 10, 0, 0, 100⟩ ⟨[opT 1], 10, 0, 0, 100⟩ = true by unfold sameQ sameT5; simp] at q
    exact q)
  clear hc8 r8
  have p0 : ∀ W, Below V.heap.size V W → W.cell? ⟨gc, 0, none⟩ = some (.int .i64 2) := fun W hW => (HC.out.below hW HC.out.lt).cell 0
  have p1 : ∀ W, Below V.heap.size V W → W.cell? ⟨gc, 1, none⟩ = some (.int .i64 4) := fun W hW => (HC.out.below hW HC.out.lt).cell 1
  have p2 : ∀ W, Below V.heap.size V W → W.cell? ⟨gc, 2, none⟩ = some (.int .i64 5) := fun W hW => (HC.out.below hW HC.out.lt).cell 2
  have p3 : ∀ W, Below V.heap.size V W → W.cell? ⟨gc, 3, none⟩ = some (.int .i64 3) := fun W hW => (HC.out.below hW HC.out.lt).cell 3
  have p4 : ∀ W, Below V.heap.size V W → W.cell? ⟨gc, 4, none⟩ = some (.string ⟨#[]⟩) := fun W hW => (HC.out.below hW HC.out.lt).cell 4
  have s0 : ∀ W, Below V.heap.size V W → W.cell? ⟨gq, 0, none⟩ = some (Value.slice a6 1 1) := fun W hW => (HQ.out.below hW HQ.out.lt).cell 0
  have s1 : ∀ W, Below V.heap.size V W → W.cell? ⟨gq, 1, none⟩ = some (.int .i64 10) := fun W hW => (HQ.out.below hW HQ.out.lt).cell 1
  have s2 : ∀ W, Below V.heap.size V W → W.cell? ⟨gq, 2, none⟩ = some (.int .i64 0) := fun W hW => (HQ.out.below hW HQ.out.lt).cell 2
  have s3 : ∀ W, Below V.heap.size V W → W.cell? ⟨gq, 3, none⟩ = some (.int .i64 0) := fun W hW => (HQ.out.below hW HQ.out.lt).cell 3
  have s4 : ∀ W, Below V.heap.size V W → W.cell? ⟨gq, 4, none⟩ = some (.int .i64 100) := fun W hW => (HQ.out.below hW HQ.out.lt).cell 4
  have r0 : ∀ W, Below V.heap.size V W → W.cell? ⟨gq + 1, 0, none⟩ = some (Value.slice a6 1 1) := fun W hW => (HR.out.below hW HR.out.lt).cell 0
  have r1 : ∀ W, Below V.heap.size V W → W.cell? ⟨gq + 1, 1, none⟩ = some (.int .i64 10) := fun W hW => (HR.out.below hW HR.out.lt).cell 1
  have r2 : ∀ W, Below V.heap.size V W → W.cell? ⟨gq + 1, 2, none⟩ = some (.int .i64 0) := fun W hW => (HR.out.below hW HR.out.lt).cell 2
  have r3 : ∀ W, Below V.heap.size V W → W.cell? ⟨gq + 1, 3, none⟩ = some (.int .i64 0) := fun W hW => (HR.out.below hW HR.out.lt).cell 3
  have r4 : ∀ W, Below V.heap.size V W → W.cell? ⟨gq + 1, 4, none⟩ = some (.int .i64 0) := fun W hW => (HR.out.below hW HR.out.lt).cell 4
  refine wp_drawn_on (fun W => Below V.heap.size V W) (by kernel_rfl) ((Below.refl _ _).drew) (fun hHeld => ?_)
  refine wT 0 (v := ?v1) rfl (by kernel_rfl) (fun _ _ _ h => h) ?h1 (by assumption) ?r1
  case h1 => (intro w hSw; (try dsimp only at hSw); go_simp; try with_reducible rfl)
  try simp only [Act.put, List.setIfInBounds_toArray, List.set_cons_zero, List.set_cons_succ]
  refine wpAnyH_ready (rs := [1]) (by kernel_rfl) (by simp) ?_
  refine AllReadyH.cons (o := ⟨_, _, _, _, _, _⟩) rfl (fun K hK => ?_) AllReadyH.nil
  go_simp
  with_reducible refine (F1.out _ hHeld).mono ?_
  rintro e v1 ⟨rfl, b1⟩
  go_simp
  refine hK.out _ _ (hHeld.trans (b1.mono hHeld.size)) (fun hHeld => ?_)
  clear hK K
  refine wT 2 (v := ?v2) rfl (by kernel_rfl) (fun _ _ _ h => h) ?h2 (by assumption) ?r2
  case h2 => (intro w hSw; (try dsimp only at hSw); go_simp; try with_reducible rfl)
  refine wT 3 (v := ?v3) rfl (by kernel_rfl) (fun _ _ _ h => h) ?h3 (by assumption) ?r3
  case h3 => (intro w hSw; (try dsimp only at hSw); go_simp; try with_reducible rfl)
  refine wT 4 (v := ?v4) rfl (by kernel_rfl) (fun _ _ _ h => h) ?h4 (by assumption) ?r4
  case h4 => (intro w hSw; (try dsimp only at hSw); go_simp; try with_reducible rfl)
  try simp only [Act.put, List.setIfInBounds_toArray, List.set_cons_zero, List.set_cons_succ]
  refine wpAnyH_ready (rs := [5]) (by kernel_rfl) (by simp) ?_
  refine AllReadyH.cons (o := ⟨_, _, _, _, _, _⟩) rfl (fun K hK => ?_) AllReadyH.nil
  go_simp
  with_reducible refine (F5.out _ hHeld).mono ?_
  rintro e v5 ⟨rfl, b5⟩
  go_simp
  refine hK.out _ _ (hHeld.trans (b5.mono hHeld.size)) (fun hHeld => ?_)
  clear hK K
  refine wT 6 (v := ?v5) rfl (by kernel_rfl) (fun _ _ _ h => h) ?h5 (by assumption) ?r5
  case h5 => (intro w hSw; (try dsimp only at hSw); go_simp; try with_reducible rfl)
  refine wT 7 (v := ?v6) rfl (by kernel_rfl) (fun _ _ _ h => h) ?h6 (by assumption) ?r6
  case h6 => (intro w hSw; (try dsimp only at hSw); go_simp; try with_reducible rfl)
  refine wT 8 (v := ?v7) rfl (by kernel_rfl) (fun _ _ _ h => h) ?h7 (by assumption) ?r7
  case h7 => (intro w hSw; (try dsimp only at hSw); go_simp; try with_reducible rfl)
  refine wT 9 (v := ?v8) rfl (by kernel_rfl) (fun _ _ _ h => h) ?h8 (by assumption) ?r8
  case h8 => (intro w hSw; (try dsimp only at hSw); go_simp; try with_reducible rfl)
  refine wT 10 (v := ?v9) rfl (by kernel_rfl) (fun _ _ _ h => h) ?h9 (by assumption) ?r9
  case h9 => (intro w hSw; (try dsimp only at hSw); go_simp; try with_reducible rfl)
  refine wT 11 (v := ?v10) rfl (by kernel_rfl) (fun _ _ _ h => h) ?h10 (by assumption) ?r10
  case h10 => (intro w hSw; (try dsimp only at hSw); go_simp; try with_reducible rfl)
  refine wT 12 (v := ?v11) rfl (by kernel_rfl) (fun _ _ _ h => h) ?h11 (by assumption) ?r11
  case h11 => (intro w hSw; (try dsimp only at hSw); go_simp; try with_reducible rfl)
  refine wT 13 (v := ?v12) rfl (by kernel_rfl) (fun _ _ _ h => h) ?h12 (by assumption) ?r12
  case h12 => (intro w hSw; (try dsimp only at hSw); go_simp; try with_reducible rfl)
  try simp only [Act.put, List.setIfInBounds_toArray, List.set_cons_zero, List.set_cons_succ]
  refine wpAnyH_ready (rs := [14]) (by kernel_rfl) (by simp) ?_
  refine AllReadyH.cons (o := ⟨_, _, _, _, _, _⟩) rfl (fun K hK => ?_) AllReadyH.nil
  have hx14 := hHeld.alloc hHeld.size (.cells #[.int .i64 2, .int .i64 4, .int .i64 5, .int .i64 3, .string ⟨#[]⟩] 38)
  have r14 := ro_lit (v5) [cL] #[.int .i64 2, .int .i64 4, .int .i64 5, .int .i64 3, .string ⟨#[]⟩] 1 rfl rfl (by omega)
  go_simp
  generalize (v5).alloc (.cells #[.int .i64 2, .int .i64 4, .int .i64 5, .int .i64 3, .string ⟨#[]⟩] 38) = v14 at *
  generalize (v5).heap.size = g14 at *
  refine hK.out _ _ (hx14) (fun hHeld => ?_)
  clear hK K
  try simp only [Act.put, List.setIfInBounds_toArray, List.set_cons_zero, List.set_cons_succ]
  refine wpAnyH_ready (rs := [15]) (by kernel_rfl) (by simp) ?_
  refine AllReadyH.cons (o := ⟨_, _, _, _, _, _⟩) rfl (fun K hK => ?_) AllReadyH.nil
  go_simp
  with_reducible refine (FS.out _ _ _ 1 _ _ [cL] (R3a.out.below hHeld) r14).mono ?_
  rintro e v15 ⟨rfl, b15⟩
  go_simp
  refine hK.out _ _ (hHeld.trans (b15.mono hHeld.size)) (fun hHeld => ?_)
  clear hK K
  refine wT 16 (v := ?v13) rfl (by kernel_rfl) (fun _ _ _ h => h) ?h13 (by assumption) ?r13
  case h13 => (intro w hSw; (try dsimp only at hSw); go_simp; try with_reducible rfl)
  refine wT 17 (v := ?v14) rfl (by kernel_rfl) (fun _ _ _ h => h) ?h14 (by assumption) ?r14
  case h14 => (intro w hSw; (try dsimp only at hSw); go_simp; try with_reducible rfl)
  refine wT 18 (v := ?v15) rfl (by kernel_rfl) (fun _ _ _ h => h) ?h15 (by assumption) ?r15
  case h15 => (intro w hSw; (try dsimp only at hSw); go_simp; try with_reducible rfl)
  refine wT 19 (v := ?v16) rfl (by kernel_rfl) (fun _ _ _ h => h) ?h16 (by assumption) ?r16
  case h16 => (intro w hSw; (try dsimp only at hSw); go_simp; try with_reducible rfl)
  refine wT 20 (v := ?v17) rfl (by kernel_rfl) (fun _ _ _ h => h) ?h17 (by assumption) ?r17
  case h17 => (intro w hSw; (try dsimp only at hSw); go_simp; try with_reducible rfl)
  refine wT 21 (v := ?v18) rfl (by kernel_rfl) (fun _ _ _ h => h) ?h18 (by assumption) ?r18
  case h18 => (intro w hSw; (try dsimp only at hSw); go_simp; try with_reducible rfl)
  refine wT 22 (v := ?v19) rfl (by kernel_rfl) (fun _ _ _ h => h) ?h19 (by assumption) ?r19
  case h19 => (intro w hSw; (try dsimp only at hSw); go_simp; try with_reducible rfl)
  refine wT 23 (v := ?v20) rfl (by kernel_rfl) (fun _ _ _ h => h) ?h20 (by assumption) ?r20
  case h20 => (intro w hSw; (try dsimp only at hSw); go_simp; try with_reducible rfl)
  refine wT 24 (v := ?v21) rfl (by kernel_rfl) (fun _ _ _ h => h) ?h21 (by assumption) ?r21
  case h21 => (intro w hSw; (try dsimp only at hSw); go_simp; try with_reducible rfl)
  refine wT 25 (v := ?v22) rfl (by kernel_rfl) (fun _ _ _ h => h) ?h22 (by assumption) ?r22
  case h22 => (intro w hSw; (try dsimp only at hSw); go_simp; try with_reducible rfl)
  refine wT 26 (v := ?v23) rfl (by kernel_rfl) (fun _ _ _ h => h) ?h23 (by assumption) ?r23
  case h23 => (intro w hSw; (try dsimp only at hSw); go_simp; try with_reducible rfl)
  refine wT 27 (v := ?v24) rfl (by kernel_rfl) (fun _ _ _ h => h) ?h24 (by assumption) ?r24
  case h24 => (intro w hSw; (try dsimp only at hSw); go_simp; try with_reducible rfl)
  refine wT 28 (v := ?v25) rfl (by kernel_rfl) (fun _ _ _ h => h) ?h25 (by assumption) ?r25
  case h25 => (intro w hSw; (try dsimp only at hSw); go_simp; try with_reducible rfl)
  refine wT 29 (v := ?v26) rfl (by kernel_rfl) (fun _ _ _ h => h) ?h26 (by assumption) ?r26
  case h26 => (intro w hSw; (try dsimp only at hSw); go_simp; try with_reducible rfl)
  refine wT 30 (v := ?v27) rfl (by kernel_rfl) (fun _ _ _ h => h) ?h27 (by assumption) ?r27
  case h27 => (intro w hSw; (try dsimp only at hSw); go_simp; try with_reducible rfl)
  refine wT 31 (v := ?v28) rfl (by kernel_rfl) (fun _ _ _ h => h) ?h28 (by assumption) ?r28
  case h28 => (intro w hSw; (try dsimp only at hSw); go_simp; try with_reducible rfl)
  try simp only [Act.put, List.setIfInBounds_toArray, List.set_cons_zero, List.set_cons_succ]
  refine wpAnyH_ready (rs := [32]) (by kernel_rfl) (by simp) ?_
  refine AllReadyH.cons (o := ⟨_, _, _, _, _, _⟩) rfl (fun K hK => ?_) AllReadyH.nil
  have hx32 := hHeld.alloc hHeld.size (.cells #[.int .i64 5, .int .i64 0, .int .i64 0, .int .i64 0, .string ⟨#[]⟩, .int .i64 3, .int .i64 0, .int .i64 0, .int .i64 0, .string ⟨#[]⟩, .int .i64 2, .int .i64 4, .int .i64 5, .int .i64 3, .string ⟨#[]⟩, .int .i64 1, .int .i64 0, .int .i64 0, .int .i64 0, .string ⟨#[]⟩] 38)
  have r32 := ro_lit (v15) [opT 5, opT 3, cL, opT 1] #[.int .i64 5, .int .i64 0, .int .i64 0, .int .i64 0, .string ⟨#[]⟩, .int .i64 3, .int .i64 0, .int .i64 0, .int .i64 0, .string ⟨#[]⟩, .int .i64 2, .int .i64 4, .int .i64 5, .int .i64 3, .string ⟨#[]⟩, .int .i64 1, .int .i64 0, .int .i64 0, .int .i64 0, .string ⟨#[]⟩] 4 rfl rfl (by omega)
  go_simp
  generalize (v15).alloc (.cells #[.int .i64 5, .int .i64 0, .int .i64 0, .int .i64 0, .string ⟨#[]⟩, .int .i64 3, .int .i64 0, .int .i64 0, .int .i64 0, .string ⟨#[]⟩, .int .i64 2, .int .i64 4, .int .i64 5, .int .i64 3, .string ⟨#[]⟩, .int .i64 1, .int .i64 0, .int .i64 0, .int .i64 0, .string ⟨#[]⟩] 38) = v32 at *
  generalize (v15).heap.size = g32 at *
  refine hK.out _ _ (hx32) (fun hHeld => ?_)
  clear hK K
  try simp only [Act.put, List.setIfInBounds_toArray, List.set_cons_zero, List.set_cons_succ]
  refine wpAnyH_ready (rs := [33]) (by kernel_rfl) (by simp) ?_
  refine AllReadyH.cons (o := ⟨_, _, _, _, _, _⟩) rfl (fun K hK => ?_) AllReadyH.nil
  go_simp
  with_reducible refine (FS.out _ _ _ 4 _ _ [opT 5, opT 3, cL, opT 1] (R5a.out.below hHeld) r32).mono ?_
  rintro e v33 ⟨rfl, b33⟩
  go_simp
  refine hK.out _ _ (hHeld.trans (b33.mono hHeld.size)) (fun hHeld => ?_)
  clear hK K
  refine wT 34 (v := ?v29) rfl (by kernel_rfl) (fun _ _ _ h => h) ?h29 (by assumption) ?r29
  case h29 => (intro w hSw; (try dsimp only at hSw); go_simp; try with_reducible rfl)
  refine wT 35 (v := ?v30) rfl (by kernel_rfl) (fun _ _ _ h => h) ?h30 (by assumption) ?r30
  case h30 => (intro w hSw; (try dsimp only at hSw); go_simp; try with_reducible rfl)
  refine wT 36 (v := ?v31) rfl (by kernel_rfl) (fun _ _ _ h => h) ?h31 (by assumption) ?r31
  case h31 => (intro w hSw; (try dsimp only at hSw); go_simp; try with_reducible rfl)
  refine wT 37 (v := ?v32) rfl (by kernel_rfl) (fun _ _ _ h => h) ?h32 (by assumption) ?r32
  case h32 => (intro w hSw; (try dsimp only at hSw); go_simp; try with_reducible rfl)
  try simp only [Act.put, List.setIfInBounds_toArray, List.set_cons_zero, List.set_cons_succ]
  refine wpAnyH_ready (rs := [38]) (by kernel_rfl) (by simp) ?_
  refine AllReadyH.cons (o := ⟨_, _, _, _, _, _⟩) rfl (fun K hK => ?_) AllReadyH.nil
  go_simp
  with_reducible refine (F38.out _ hHeld).mono ?_
  rintro e v38 ⟨rfl, b38⟩
  go_simp
  refine hK.out _ _ (hHeld.trans (b38.mono hHeld.size)) (fun hHeld => ?_)
  clear hK K
  refine wT 39 (v := ?v33) rfl (by kernel_rfl) (fun _ _ _ h => h) ?h33 (by assumption) ?r33
  case h33 => (intro w hSw; (try dsimp only at hSw); go_simp; try with_reducible rfl)
  refine wT 40 (v := ?v34) rfl (by kernel_rfl) (fun _ _ _ h => h) ?h34 (by assumption) ?r34
  case h34 => (intro w hSw; (try dsimp only at hSw); go_simp; try with_reducible rfl)
  refine wT 41 (v := ?v35) rfl (by kernel_rfl) (fun _ _ _ h => h) ?h35 (by assumption) ?r35
  case h35 => (intro w hSw; (try dsimp only at hSw); go_simp; try with_reducible rfl)
  refine wT 42 (v := ?v36) rfl (by kernel_rfl) (fun _ _ _ h => h) ?h36 (by assumption) ?r36
  case h36 => (intro w hSw; (try dsimp only at hSw); go_simp; try with_reducible rfl)
  try simp only [Act.put, List.setIfInBounds_toArray, List.set_cons_zero, List.set_cons_succ]
  refine wpAnyH_ready (rs := [43]) (by kernel_rfl) (by simp) ?_
  refine AllReadyH.cons (o := ⟨_, _, _, _, _, _⟩) rfl (fun K hK => ?_) AllReadyH.nil
  go_simp
  with_reducible refine (F43.out _ hHeld).mono ?_
  rintro e v43 ⟨rfl, b43⟩
  go_simp
  refine hK.out _ _ (hHeld.trans (b43.mono hHeld.size)) (fun hHeld => ?_)
  clear hK K
  refine wT 44 (v := ?v37) rfl (by kernel_rfl) (fun _ _ _ h => h) ?h37 (by assumption) ?r37
  case h37 => (intro w hSw; (try dsimp only at hSw); go_simp; try with_reducible rfl)
  refine wT 45 (v := ?v38) rfl (by kernel_rfl) (fun _ _ _ h => h) ?h38 (by assumption) ?r38
  case h38 => (intro w hSw; (try dsimp only at hSw); go_simp; try with_reducible rfl)
  refine wT 46 (v := ?v39) rfl (by kernel_rfl) (fun _ _ _ h => h) ?h39 (by assumption) ?r39
  case h39 => (intro w hSw; (try dsimp only at hSw); go_simp; try with_reducible rfl)
  refine wT 47 (v := ?v40) rfl (by kernel_rfl) (fun _ _ _ h => h) ?h40 (by assumption) ?r40
  case h40 => (intro w hSw; (try dsimp only at hSw); go_simp; try with_reducible rfl)
  try simp only [Act.put, List.setIfInBounds_toArray, List.set_cons_zero, List.set_cons_succ]
  refine wpAnyH_ready (rs := [48]) (by kernel_rfl) (by simp) ?_
  refine AllReadyH.cons (o := ⟨_, _, _, _, _, _⟩) rfl (fun K hK => ?_) AllReadyH.nil
  go_simp
  with_reducible refine (F48.out _ hHeld).mono ?_
  rintro e v48 ⟨rfl, b48⟩
  go_simp
  refine hK.out _ _ (hHeld.trans (b48.mono hHeld.size)) (fun hHeld => ?_)
  clear hK K
  refine wT 49 (v := ?v41) rfl (by kernel_rfl) (fun _ _ _ h => h) ?h41 (by assumption) ?r41
  case h41 => (intro w hSw; (try dsimp only at hSw); go_simp; try with_reducible rfl)
  refine wT 50 (v := ?v42) rfl (by kernel_rfl) (fun _ _ _ h => h) ?h42 (by assumption) ?r42
  case h42 => (intro w hSw; (try dsimp only at hSw); go_simp; try with_reducible rfl)
  refine wT 51 (v := ?v43) rfl (by kernel_rfl) (fun _ _ _ h => h) ?h43 (by assumption) ?r43
  case h43 => (intro w hSw; (try dsimp only at hSw); go_simp; try with_reducible rfl)
  refine wT 52 (v := ?v44) rfl (by kernel_rfl) (fun _ _ _ h => h) ?h44 (by assumption) ?r44
  case h44 => (intro w hSw; (try dsimp only at hSw); go_simp; try with_reducible rfl)
  refine wT 53 (v := ?v45) rfl (by kernel_rfl) (fun _ _ _ h => h) ?h45 (by assumption) ?r45
  case h45 => (intro w hSw; (try dsimp only at hSw); go_simp; try with_reducible rfl)
  refine wT 54 (v := ?v46) rfl (by kernel_rfl) (fun _ _ _ h => h) ?h46 (by assumption) ?r46
  case h46 => (intro w hSw; (try dsimp only at hSw); go_simp; try with_reducible rfl)
  refine wT 55 (v := ?v47) rfl (by kernel_rfl) (fun _ _ _ h => h) ?h47 (by assumption) ?r47
  case h47 => (intro w hSw; (try dsimp only at hSw); go_simp; try with_reducible rfl)
  refine wT 56 (v := ?v48) rfl (by kernel_rfl) (fun _ _ _ h => h) ?h48 (by assumption) ?r48
  case h48 => (intro w hSw; (try dsimp only at hSw); go_simp; try with_reducible rfl)
  refine wT 57 (v := ?v49) rfl (by kernel_rfl) (fun _ _ _ h => h) ?h49 (by assumption) ?r49
  case h49 => (intro w hSw; (try dsimp only at hSw); go_simp; try with_reducible rfl)
  try simp only [Act.put, List.setIfInBounds_toArray, List.set_cons_zero, List.set_cons_succ]
  refine wpAnyH_ready (rs := [58]) (by kernel_rfl) (by simp) ?_
  refine AllReadyH.cons (o := ⟨_, _, _, _, _, _⟩) rfl (fun K hK => ?_) AllReadyH.nil
  go_simp
  with_reducible refine (F58.out _).mono ?_
  rintro e v58 ⟨a7, rfl, r58, b58⟩
  go_simp
  refine hK.out _ _ (hHeld.trans (b58.mono hHeld.size)) (fun hHeld => ?_)
  clear hK K
  try simp only [Act.put, List.setIfInBounds_toArray, List.set_cons_zero, List.set_cons_succ]
  refine wpAnyH_ready (rs := [59]) (by kernel_rfl) (by simp) ?_
  refine AllReadyH.cons (o := ⟨_, _, _, _, _, _⟩) rfl (fun K hK => ?_) AllReadyH.nil
  go_simp
  with_reducible refine (F59.out _ _ hHeld r58).mono ?_
  rintro e v59 ⟨rfl, b59⟩
  go_simp
  refine hK.out _ _ (hHeld.trans (b59.mono hHeld.size)) (fun hHeld => ?_)
  clear hK K
  refine wT 60 (v := ?v50) rfl (by kernel_rfl) (fun _ _ _ h => h) ?h50 (by assumption) ?r50
  case h50 => (intro w hSw; (try dsimp only at hSw); go_simp; try with_reducible rfl)
  refine wT 61 (v := ?v51) rfl (by kernel_rfl) (fun _ _ _ h => h) ?h51 (by assumption) ?r51
  case h51 => (intro w hSw; (try dsimp only at hSw); go_simp; try with_reducible rfl)
  try simp only [Act.put, List.setIfInBounds_toArray, List.set_cons_zero, List.set_cons_succ]
  refine wpAnyH_done (by kernel_rfl) ?_ _
  have hf := Lib.hid (BL'.out.trans (hHeld.mono BL'.out.size))
  go_wp2
  go_ret
  exact ⟨rfl, hf.out⟩
end Go.Proofs.YtknnjkhocbpohaaDoor
namespace Go.Proofs.YtknnjkhocbpohaaDoor
open Go.RowKit
set_option linter.unusedVariables false
set_option linter.unusedSimpArgs false
structure TwoRows (w0 w : World) (v1 v2 : Value) (n1 n2 : Nat) (l1 l2 : List TmD) : Prop where
  o1 : w.ownsRow w0.heap.size 38 5 v1 n1 (tmcells l1)
  o2 : w.ownsRow w0.heap.size 38 5 v2 n2 (tmcells l2)
  b : Below w0.heap.size w0 w
  ne : ∀ k, v1.ownBlock = some k → v2.ownBlock = some k → False
theorem TwoRows.symm {w0 w : World} {v1 v2 : Value} {n1 n2 : Nat} {l1 l2 : List TmD} (h : TwoRows w0 w v1 v2 n1 n2 l1 l2) : TwoRows w0 w v2 v1 n2 n1 l2 l1 := ⟨h.o2, h.o1, h.b, fun k a c => h.ne k c a⟩
theorem wpList_append_two {ops : Array Oper} {rest : List Oper} {o : Oper} {a : Act} {Q : Exit → Act → World → Prop} (w : World) (hg : o.guard = none) (s x : Operand) (hop : o.op = Op.call { callee := Callee.builtin Builtin.append, args := #[s, x], argTypes := #[22, 22] })
    (w0 : World) (v1 v2 : Value) (n1 n2 : Nat) (l1 l2 : List TmD) (h : TwoRows w0 w v1 v2 n1 n2 l1 l2) (ys : List TmD) (m : Nat) (hm : ys.length = m) (cs : Array Value) (hcs : cs.toList = tmcells ys)
    (hsv : a.eval s = v1) (hg2 : Nat) (hx : a.eval x = .slice (some ⟨hg2, 0, none⟩) m m) (hh : hg2 = w.heap.size) (hn : n1 ≤ 1000000) (hm2 : m ≤ 10)
    (hK : ∀ v' w', TwoRows w0 w' v' v2 (n1 + m) n2 (l1 ++ ys) l2 → wpList Tryd.prog ops Q rest (a.put o.dst v') w') :
    wpList Tryd.prog ops Q (o :: rest) a (w.alloc (.cells cs 38)) := by
  subst hh
  obtain ⟨i0, z0, hi, hz, h6, h72, hz6⟩ := infoTmZ
  have hb1 := box_below w cs 38
  have hS := seesC_lit w 38 cs
  rw [hcs] at hS
  obtain ⟨v', w', hrun, g1, g2, g3⟩ := run_append_cellsB (P := Tryd.prog) (w.alloc (.cells cs 38)) w0.heap.size 22 o.type 38 i0 z0 5 48 Tryd.underlying22 hi hz h6 h72 hz6 (by omega) v1 n1 (tmcells l1) (own_below h.o1 hb1) _ _ m m (tmcells ys) (by rw [tmcells_len, hm]) hS (fun u hu => tmcells_one hu) (by unfold maxLen; omega) (by omega) (Nat.le_trans h.b.size hb1.size)
  refine wpList_plain hg fun K hK' => ?_
  unfold Oper.wp
  simp [execOp, hop, resolve, invoke, builtin, hsv, hx, hrun, Result.andThen]
  have hb2 := h.b.trans (hb1.mono h.b.size)
  have hlt := fun k hk => (h.o2.lt k hk).2
  have hks : v2.ownBlock = none ∨ v2.ownBlock ≠ v1.ownBlock := by
    cases e : v2.ownBlock with
    | none => exact .inl rfl
    | some k => exact .inr fun e2 => h.ne k e2.symm e
  refine hK' _ _ (hK v' w' ⟨by rw [tmcells_app]; exact g1, (own_below h.o2 hb1).kept g2 hks, hb2.grown g2 hb2.size fun k hk => (h.o1.lt k hk).1, ?_⟩)
  intro k e1 e2
  rcases g3 with g3 | g3
  · exact h.ne k (g3 ▸ e1) e2
  · rw [g3] at e1
    injection e1 with e1
    have := hlt k e2
    have := hb1.size
    omega
def nL (k : Nat) : List TmD := List.replicate k (opT 3)
def pL (k : Nat) : List TmD := (List.replicate k [opT 5, opT 1]).flatten
theorem nL_succ (k : Nat) : nL (k + 1) = nL k ++ [opT 3] := List.replicate_succ'
theorem pL_succ (k : Nat) : pL (k + 1) = pL k ++ [opT 5, opT 1] := by unfold pL; rw [List.replicate_succ', List.flatten_append]; simp
def nT : Nat → FT
  | 0 => .leaf (opT 1)
  | k + 1 => .neg (nT k)
def pT : Nat → FT
  | 0 => .leaf (opT 1)
  | k + 1 => .bin 5 (.leaf (opT 1)) (pT k)
theorem nT_ser : ∀ k, (nT k).ser = nL k ++ [opT 1]
  | 0 => rfl
  | k + 1 => by
    show opT 3 :: (nT k).ser = _
    rw [nT_ser k]
    rfl
theorem pT_ser : ∀ k, (pT k).ser = pL k ++ [opT 1]
  | 0 => rfl
  | k + 1 => by
    show opT 5 :: ([opT 1] ++ (pT k).ser) = _
    rw [pT_ser k]
    rfl
theorem one_good : (FT.leaf (opT 1)).good := ⟨by decide +kernel, .inl rfl⟩
theorem nT_good : ∀ k, (nT k).good
  | 0 => one_good
  | k + 1 => nT_good k
theorem pT_good : ∀ k, (pT k).good
  | 0 => one_good
  | k + 1 => ⟨.inr rfl, one_good, pT_good k⟩
theorem nT_deep : ∀ k, (nT k).deep = k + 1
  | 0 => rfl
  | k + 1 => by show (nT k).deep + 1 = _; rw [nT_deep k]
theorem pT_deep : ∀ k, (pT k).deep = k + 1
  | 0 => rfl
  | k + 1 => by show max 1 (pT k).deep + 1 = _; rw [pT_deep k]; omega
theorem nL_len (k : Nat) : (nL k).length = k := by simp [nL]
theorem pL_len : ∀ k, (pL k).length = 2 * k
  | 0 => rfl
  | k + 1 => by rw [pL_succ, List.length_append, pL_len k]; simp; omega
theorem nL_filt (k : Nat) : filtE (nL k ++ [opT 1]) = if 32 < k + 1 then 3 else 0 := by
  have h := filtE_ser (nT_good k)
  rw [nT_ser, nT_deep, List.length_append, nL_len] at h
  rw [h]
  simp only [List.length_cons, List.length_nil]
  split
  · rw [if_pos (by omega)]
  · rfl
theorem pL_filt (k : Nat) : filtE (pL k ++ [opT 1]) = if 32 < k + 1 then 3 else 0 := by
  have h := filtE_ser (pT_good k)
  rw [pT_ser, pT_deep, List.length_append, pL_len] at h
  rw [h]
  simp only [List.length_cons, List.length_nil]
  split
  · rw [if_pos (by omega)]
  · rfl
theorem opT_S (k : Int) : tmS (opT k) := by show (⟨#[]⟩ : ByteArray).size ≤ _; decide
theorem nL_S (k : Nat) : ∀ t ∈ nL k ++ [opT 1], tmS t := by
  intro t ht
  rcases List.mem_append.1 ht with h | h
  · rw [(List.mem_replicate.1 h).2]; exact opT_S 3
  · rw [List.mem_singleton.1 h]; exact opT_S 1
theorem pL_S (k : Nat) : ∀ t ∈ pL k ++ [opT 1], tmS t := by
  intro t ht
  rcases List.mem_append.1 ht with h | h
  · obtain ⟨x, hx, h⟩ := List.mem_flatten.1 h
    rw [(List.mem_replicate.1 hx).2] at h
    simp only [List.mem_cons, List.not_mem_nil, or_false] at h
    rcases h with rfl | rfl
    · exact opT_S 5
    · exact opT_S 1
  · rw [List.mem_singleton.1 h]; exact opT_S 1
set_option maxRecDepth 100000 in
set_option maxHeartbeats 8000000 in
theorem askDeep_out (w : World) (ht : ATab w) (n : Int) (h : n < 0 ∨ 150 < n) : Calls Tryd.prog 6 #[.int .i64 n] w (Gives (.bool true) w) := by
  have qv := Lib.hid (asklives_any w ht)
  by_cases h0 : n < 0
  all_goals
    have h1 : 0 ≤ n → 150 < n := by omega
    first | (have h2 : 150 < n := by omega) | skip
    clear h ht h1
    go_enter Tryd.func6, Tryd.ntmps6
    go_wp2_with fail
    refine qv.out.mono ?_
    rintro e u2 ⟨rfl, b2⟩
    have hf := Lib.hid b2
    clear b2 qv
    go_wp2
    go_ret
    exact ⟨rfl, hf.out⟩
set_option maxRecDepth 100000 in
set_option maxHeartbeats 8000000 in
theorem askDeep_in (w : World) (ht : ATab w) (n : Nat) (hn : n ≤ 150) : Calls Tryd.prog 6 #[.int .i64 n] w (Gives (.bool true) w) := by
  have h0 : ¬ (n : Int) < 0 := by omega
  have h150 : ¬ (150 : Int) < (n : Int) := by omega
  have T0 := Lib.hid (show TwoRows w w (.slice none 0 0) (.slice none 0 0) 0 0 [] [] from ⟨own_nil _ _ _ _, own_nil _ _ _ _, Below.refl _ _, by intro k h; cases h⟩)
  have TW := Lib.hid ht
  clear ht
  go_enter Tryd.func6, Tryd.ntmps6
  go_wp2
  go_loopw [3, 4, 5] (fun v1 v2 x wr => ∃ k : Nat, k ≤ n ∧ x = .int .i64 k ∧ Hid (TwoRows w wr v1 v2 k (2 * k) (nL k) (pL k))) (fun _ _ x _ => n - (intOf x).toNat)
  case atStart => exact ⟨0, Nat.zero_le _, rfl, T0⟩
  case round =>
    obtain ⟨k, hk, rfl, T1⟩ := hrel
    clear T0
    generalize wr = g0 at *
    by_cases hlt : k < n
    · have hki : (k : Int) < (n : Int) := by omega
      go_wp2_with (at_builtin; first | (refine wpList_append_two _ rfl (.tmp 20) (.tmp 22) rfl w _ _ k (2 * k) _ _ T1.out [opT 3] 1 rfl _ rfl rfl _ rfl rfl (by omega) (by omega) ?_; intro v3 g1 t2; have T2 := Lib.hid t2.symm; clear t2 T1) | (refine wpList_append_two _ rfl (.tmp 24) (.tmp 27) rfl w _ _ (2 * k) (k + 1) _ _ T2.out [opT 5, opT 1] 2 rfl _ rfl rfl _ rfl rfl (by omega) (by omega) ?_; intro v4 g2 t3; have T3 := Lib.hid t3.symm; clear t3 T2))
      go_roundw
      case rel => exact ⟨k + 1, by omega, by go_num, Lib.hid (by have := T3.out; rw [← nL_succ, ← pL_succ] at this; exact this)⟩
      case measure => simp [intOf]; omega
    · have hkk : k = n := by omega
      subst hkk
      clear hlt hk
      have hq := nL_filt k
      have hp := pL_filt k
      by_cases hd : 32 < k + 1
      all_goals
        first | (have hdi : (32 : Int) < (k : Int) + 1 := by omega) | (have hdi : ¬ (32 : Int) < (k : Int) + 1 := by omega)
        first | (rw [if_pos hd] at hq hp) | (rw [if_neg hd] at hq hp)
        have hQ := Lib.hid hq
        have hP := Lib.hid hp
        clear hd hq hp
        go_wp2_with (at_builtin; first | (refine wpList_append_two _ rfl (.tmp 29) (.tmp 31) rfl w _ _ k (2 * k) _ _ T1.out [opT 1] 1 rfl _ rfl rfl _ rfl rfl (by omega) (by omega) ?_; intro v3 g1 t2; have T2 := Lib.hid t2.symm; clear t2 T1) | (refine wpList_append_two _ rfl (.tmp 33) (.tmp 35) rfl w _ _ (2 * k) (k + 1) _ _ T2.out [opT 1] 1 rfl _ rfl rfl _ rfl rfl (by omega) (by omega) ?_; intro v4 g2 t3; have T3 := Lib.hid t3.symm; clear t3 T2) | fail)
        have B := Lib.hid T3.out.b
        obtain ⟨a1, c1, rfl, r1⟩ := tro_own T3.out.o1
        obtain ⟨a2, c2, rfl, r2⟩ := tro_own T3.out.o2
        have R1 := Lib.hid r1
        have R2 := Lib.hid r2
        have qv := Lib.hid (asklives_any g2 (TW.out.on B.out))
        clear T3 r1 r2
        refine qv.out.mono ?_
        rintro e g3 ⟨rfl, b3⟩
        replace R1 := Lib.hid (R1.out.below b3)
        replace R2 := Lib.hid (R2.out.below b3)
        replace B := Lib.hid (B.out.trans (b3.mono B.out.size))
        have q1 := qfilter_any g3 a1 _ c1 _ R1.out (nL_S k) (TW.out.on B.out)
        rw [hQ.out] at q1
        have Q1 := Lib.hid q1
        clear b3 qv q1 R1
        go_wp2_with fail
        refine Q1.out.mono ?_
        rintro e g4 ⟨rfl, b4⟩
        replace R2 := Lib.hid (R2.out.below b4)
        replace B := Lib.hid (B.out.trans (b4.mono B.out.size))
        have q2 := qfilter_any g4 a2 _ c2 _ R2.out (pL_S k) (TW.out.on B.out)
        rw [hP.out] at q2
        have Q2 := Lib.hid q2
        clear b4 Q1 q2 R2
        go_wp2_with fail
        refine Q2.out.mono ?_
        rintro e g5 ⟨rfl, b5⟩
        replace B := Lib.hid (B.out.trans (b5.mono B.out.size))
        clear b5 Q2
        go_wp2
        go_ret
        exact ⟨rfl, B.out⟩
theorem askDeep_walk (w : World) (ht : ATab w) (n : Int) (hw : (Lit.int .i64 n).wf = true) : Calls Tryd.prog 6 #[.int .i64 n] w (Gives (.bool true) w) := by
  by_cases h : n < 0 ∨ 150 < n
  · exact askDeep_out w ht n h
  · obtain ⟨k, rfl⟩ := Int.eq_ofNat_of_zero_le (show 0 ≤ n by omega)
    exact askDeep_in w ht k (by omega)
end Go.Proofs.YtknnjkhocbpohaaDoor
namespace Go.Proofs.YtknnjkhocbpohaaDoor
set_option linter.unusedVariables false
set_option linter.unusedSimpArgs false
mutual
def flatD {H : Type} : DataW H → List Value
  | .lit (.int k n) => [.int k n]
  | .lit (.bool b) => [.bool b]
  | .agg l => flatDs l
  | _ => []
def flatDs {H : Type} : List (DataW H) → List Value
  | [] => []
  | d :: ds => flatD d ++ flatDs ds
end
def contigT (P : Program) : Nat → List Field → Nat → Bool
  | o, [], n => o == n
  | o, f :: r, n => (f.offset == o) && contigT P (o + P.cellsOf f.type) r n
def okFlat (P : Program) : Nat → TypeId → Bool
  | 0, _ => false
  | n + 1, t =>
    match P.underlying t with
    | some .bool => true
    | some (.int _) => true
    | some (.struct fs) => contigT P 0 fs.toList (P.cellsOf t) && fs.toList.all fun f => okFlat P n f.type
    | some (.array m e) => (P.cellsOf t == m * P.cellsOf e) && okFlat P n e
    | _ => false
theorem flat_fields {H : Type} {P : Program} {cs : List Value} {r : Field → List Value → Option (DataW H × List MemPlace)} {n : Nat} :
    ∀ (fs : List Field) (o : Nat) (xs : List (DataW H × List MemPlace)), contigT P o fs n = true → cs.length = n →
      (fs.mapM fun f => r f ((cs.drop f.offset).take (P.cellsOf f.type))) = some xs →
      (∀ f ∈ fs, ∀ c d p, r f c = some (d, p) → c = flatD d) → cs.drop o = flatDs (xs.map (·.1))
  | [], o, xs, hc, hl, hm, _ => by
    simp only [contigT, beq_iff_eq] at hc
    simp at hm
    subst hm
    rw [List.drop_of_length_le (by omega)]
    rfl
  | f :: fs, o, xs, hc, hl, hm, hr => by
    simp only [contigT, Bool.and_eq_true, beq_iff_eq] at hc
    simp only [List.mapM_cons, Option.bind_eq_bind, Option.bind_eq_some_iff, Option.pure_def, Option.some.injEq] at hm
    obtain ⟨b, hb, r', hr', rfl⟩ := hm
    have ih := flat_fields fs _ _ hc.2 hl hr' (fun g hg => hr g (List.mem_cons_of_mem _ hg))
    have h1 := hr f List.mem_cons_self _ b.1 b.2 hb
    rw [hc.1] at h1
    simp only [List.map_cons, flatDs]
    rw [← h1, ← ih, ← List.drop_drop, List.take_append_drop]
theorem flat_elems {H : Type} {cs : List Value} {r : List Value → Option (DataW H × List MemPlace)} {c : Nat} :
    ∀ (k s : Nat) (xs : List (DataW H × List MemPlace)), cs.length = (s + k) * c →
      ((List.range' s k).mapM fun i => r ((cs.drop (i * c)).take c)) = some xs →
      (∀ c d p, r c = some (d, p) → c = flatD d) → cs.drop (s * c) = flatDs (xs.map (·.1))
  | 0, s, xs, hl, hm, _ => by
    simp at hm
    subst hm
    rw [List.drop_of_length_le (by rw [hl]; simp)]
    rfl
  | k + 1, s, xs, hl, hm, hr => by
    simp only [List.range'_succ, List.mapM_cons, Option.bind_eq_bind, Option.bind_eq_some_iff, Option.pure_def, Option.some.injEq] at hm
    obtain ⟨b, hb, r', hr', rfl⟩ := hm
    have ih := flat_elems k (s + 1) _ (by rw [hl]; congr 1; omega) hr' hr
    have h1 := hr _ b.1 b.2 hb
    simp only [List.map_cons, flatDs]
    rw [← h1, ← ih, Nat.succ_mul, ← List.drop_drop, List.take_append_drop]
theorem flat_trod {H : Type} {enc : TypeId × Value → H} {P : Program} {w : World} {base : Nat} {sp : Nat → Bool} {held : Bool} :
    ∀ (n : Nat) (t : TypeId) (fuel : Nat) (cs : List Value) (d : DataW H) (p : List MemPlace), okFlat P n t = true → DataW.trod enc P w base sp held fuel t cs = some (d, p) → cs = flatD d
  | 0, _, _, _, _, _, h, _ => by simp [okFlat] at h
  | n + 1, t, 0, _, _, _, _, h => by simp [DataW.trod] at h
  | n + 1, t, fuel + 1, cs, d, p, hok, h => by
    unfold okFlat at hok
    cases hs : P.underlying t with
    | none => rw [hs] at hok; simp at hok
    | some u =>
      rw [hs] at hok
      cases u with
      | bool =>
        simp only [DataW.trod, hs] at h
        split at h <;> simp_all [flatD]
        obtain ⟨rfl, _⟩ := h
        rfl
      | int k =>
        simp only [DataW.trod, hs] at h
        split at h <;> simp_all
        obtain ⟨⟨rfl, _⟩, rfl, _⟩ := h
        rfl
      | struct fs =>
        simp only [Bool.and_eq_true, List.all_eq_true] at hok
        simp only [DataW.trod, hs] at h
        split at h
        · rename_i hl
          obtain ⟨xs, hm, hx⟩ := Option.map_eq_some_iff.1 h
          simp only [Prod.mk.injEq] at hx
          obtain ⟨rfl, _⟩ := hx
          have := flat_fields (P := P) (r := fun f c => DataW.trod enc P w base sp held fuel f.type c) fs.toList 0 xs hok.1 hl hm (fun f hf c d p hc => flat_trod n f.type fuel c d p (hok.2 f hf) hc)
          rw [List.drop_zero] at this
          rw [this]
          simp [flatD]
        · cases h
      | array m e =>
        simp only [Bool.and_eq_true, beq_iff_eq] at hok
        simp only [DataW.trod, hs] at h
        split at h
        · rename_i hl
          obtain ⟨xs, hm, hx⟩ := Option.map_eq_some_iff.1 h
          simp only [Prod.mk.injEq] at hx
          obtain ⟨rfl, _⟩ := hx
          rw [List.range_eq_range'] at hm
          have := flat_elems (r := fun c => DataW.trod enc P w base sp held fuel e c) m 0 xs (by rw [hl, hok.1]; simp) hm (fun c d p hc => flat_trod n e fuel c d p hok.2 hc)
          rw [Nat.zero_mul, List.drop_zero] at this
          rw [this]
          simp [flatD]
        · cases h
      | _ => simp at hok
theorem laid_cells {P : Program} {W : World} {name : String} {d : DataW Unit} {rest : List (String × DataW Unit)} {g : Nat} {t : TypeId} (n : Nat) (cs : List Value)
    (hg : P.globalNamed name = some g) (hty : (P.globals[g]?).map (·.type) = some t) (hok : okFlat P n t = true) (hcs : flatD d = cs)
    (h : laidMet P ((name, d) :: rest) W) : W.var? P name = some cs.toArray := by
  obtain ⟨ps, ⟨g', t', cs', fuel, p, q, hg', ht', hvar, hd, _, _⟩, _⟩ := h
  obtain rfl := Option.some.inj (hg.symm.trans hg')
  obtain rfl := Option.some.inj (hty.symm.trans ht')
  have := flat_trod n _ _ _ _ _ hok hd
  rw [hcs] at this
  rw [hvar, ← this]
end Go.Proofs.YtknnjkhocbpohaaDoor
