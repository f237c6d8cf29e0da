/-
  Words and walks under the law's proof.
-/
import Derived.Test.YtimgocfkogebmaaGreatDoorRows
import Derived.IntWalk
import Derived.Deep.QuietTactic
import Derived.BigQuiet
import Derived.Laws.Cover1
import Derived.Laws.CopyRow
import Derived.Laws.Tables
import Derived.Shelf.SlSortCmp.NoneTotal
import Derived.Ground.SlsfProg
import Derived.Test.YtimgocfkogebmaaGreatDoorProg
import Derived.WalkSpells
import Derived.Lib.BufferMore
import Derived.Lib.ItoaMem
import Derived.Lib.ItoaLen
import Derived.Lib.Strings
import Derived.Lib.SmallJoins
import Derived.Test.YtimgocfkogebmaaGreatDoorQF01
import Derived.Test.YtimgocfkogebmaaGreatDoorQF04
import Derived.Test.YtimgocfkogebmaaGreatDoorQF08
import Derived.Test.YtimgocfkogebmaaGreatDoorQF09
namespace Go.Proofs.YtimgocfkogebmaaGreatDoor
open Go.RowKit
set_option linter.unusedVariables false
set_option linter.unusedSimpArgs false
theorem acm0_any (a b : AlD) (w : World) : Calls Tryz.prog 71 #[.agg #[.int .i64 a.kind, .int .i64 a.sev, .string a.fn, .string a.file, .int .i64 a.line, .string a.expr], .agg #[.int .i64 b.kind, .int .i64 b.sev, .string b.fn, .string b.file, .int .i64 b.line, .string b.expr]] w (GivesG (.int .i64 (cmpT a.file b.file)) w) := by
  have b0 : Hid (Grows w ((w.alloc (.cells #[.int .i64 a.kind, .int .i64 a.sev, .string a.fn, .string a.file, .int .i64 a.line, .string a.expr] 23)).alloc (.cells #[.int .i64 b.kind, .int .i64 b.sev, .string b.fn, .string b.file, .int .i64 b.line, .string b.expr] 23))) := Lib.hid (((Grows.refl w).alloc _).alloc _)
  have q := Lib.hid (fun W => scompare_any a.file b.file W)
  go_enter Tryz.func71, Tryz.ntmps71
  go_wp2_with fail
  with_reducible refine (q.out _).mono ?_
  rintro e w1 ⟨rfl, rfl⟩
  go_wp2
  go_ret
  exact ⟨rfl, b0.out⟩
theorem acm1_any (a b : AlD) (w : World) : Calls Tryz.prog 73 #[.agg #[.int .i64 a.kind, .int .i64 a.sev, .string a.fn, .string a.file, .int .i64 a.line, .string a.expr], .agg #[.int .i64 b.kind, .int .i64 b.sev, .string b.fn, .string b.file, .int .i64 b.line, .string b.expr]] w (GivesG (.int .i64 (cmpZ a.line b.line)) w) := by
  have b0 : Hid (Grows w ((w.alloc (.cells #[.int .i64 a.kind, .int .i64 a.sev, .string a.fn, .string a.file, .int .i64 a.line, .string a.expr] 23)).alloc (.cells #[.int .i64 b.kind, .int .i64 b.sev, .string b.fn, .string b.file, .int .i64 b.line, .string b.expr] 23))) := Lib.hid (((Grows.refl w).alloc _).alloc _)
  have q := Lib.hid (fun W => icompare_any a.line b.line W)
  go_enter Tryz.func73, Tryz.ntmps73
  go_wp2_with fail
  with_reducible refine (q.out _).mono ?_
  rintro e w1 ⟨rfl, rfl⟩
  go_wp2
  go_ret
  exact ⟨rfl, b0.out⟩
theorem acm2_any (a b : AlD) (w : World) : Calls Tryz.prog 75 #[.agg #[.int .i64 a.kind, .int .i64 a.sev, .string a.fn, .string a.file, .int .i64 a.line, .string a.expr], .agg #[.int .i64 b.kind, .int .i64 b.sev, .string b.fn, .string b.file, .int .i64 b.line, .string b.expr]] w (GivesG (.int .i64 (cmpT a.fn b.fn)) w) := by
  have b0 : Hid (Grows w ((w.alloc (.cells #[.int .i64 a.kind, .int .i64 a.sev, .string a.fn, .string a.file, .int .i64 a.line, .string a.expr] 23)).alloc (.cells #[.int .i64 b.kind, .int .i64 b.sev, .string b.fn, .string b.file, .int .i64 b.line, .string b.expr] 23))) := Lib.hid (((Grows.refl w).alloc _).alloc _)
  have q := Lib.hid (fun W => scompare_any a.fn b.fn W)
  go_enter Tryz.func75, Tryz.ntmps75
  go_wp2_with fail
  with_reducible refine (q.out _).mono ?_
  rintro e w1 ⟨rfl, rfl⟩
  go_wp2
  go_ret
  exact ⟨rfl, b0.out⟩
theorem acm3_any (a b : AlD) (w : World) : Calls Tryz.prog 76 #[.agg #[.int .i64 a.kind, .int .i64 a.sev, .string a.fn, .string a.file, .int .i64 a.line, .string a.expr], .agg #[.int .i64 b.kind, .int .i64 b.sev, .string b.fn, .string b.file, .int .i64 b.line, .string b.expr]] w (GivesG (.int .i64 (cmpZ a.kind b.kind)) w) := by
  have b0 : Hid (Grows w ((w.alloc (.cells #[.int .i64 a.kind, .int .i64 a.sev, .string a.fn, .string a.file, .int .i64 a.line, .string a.expr] 23)).alloc (.cells #[.int .i64 b.kind, .int .i64 b.sev, .string b.fn, .string b.file, .int .i64 b.line, .string b.expr] 23))) := Lib.hid (((Grows.refl w).alloc _).alloc _)
  have q := Lib.hid (fun W => icompare_any a.kind b.kind W)
  go_enter Tryz.func76, Tryz.ntmps76
  go_wp2_with fail
  with_reducible refine (q.out _).mono ?_
  rintro e w1 ⟨rfl, rfl⟩
  go_wp2
  go_ret
  exact ⟨rfl, b0.out⟩
theorem acm4_any (a b : AlD) (w : World) : Calls Tryz.prog 77 #[.agg #[.int .i64 a.kind, .int .i64 a.sev, .string a.fn, .string a.file, .int .i64 a.line, .string a.expr], .agg #[.int .i64 b.kind, .int .i64 b.sev, .string b.fn, .string b.file, .int .i64 b.line, .string b.expr]] w (GivesG (.int .i64 (cmpT a.expr b.expr)) w) := by
  have b0 : Hid (Grows w ((w.alloc (.cells #[.int .i64 a.kind, .int .i64 a.sev, .string a.fn, .string a.file, .int .i64 a.line, .string a.expr] 23)).alloc (.cells #[.int .i64 b.kind, .int .i64 b.sev, .string b.fn, .string b.file, .int .i64 b.line, .string b.expr] 23))) := Lib.hid (((Grows.refl w).alloc _).alloc _)
  have q := Lib.hid (fun W => scompare_any a.expr b.expr W)
  go_enter Tryz.func77, Tryz.ntmps77
  go_wp2_with fail
  with_reducible refine (q.out _).mono ?_
  rintro e w1 ⟨rfl, rfl⟩
  go_wp2
  go_ret
  exact ⟨rfl, b0.out⟩
theorem acm5_any (a b : AlD) (w : World) : Calls Tryz.prog 78 #[.agg #[.int .i64 a.kind, .int .i64 a.sev, .string a.fn, .string a.file, .int .i64 a.line, .string a.expr], .agg #[.int .i64 b.kind, .int .i64 b.sev, .string b.fn, .string b.file, .int .i64 b.line, .string b.expr]] w (GivesG (.int .i64 (cmpZ a.sev b.sev)) w) := by
  have b0 : Hid (Grows w ((w.alloc (.cells #[.int .i64 a.kind, .int .i64 a.sev, .string a.fn, .string a.file, .int .i64 a.line, .string a.expr] 23)).alloc (.cells #[.int .i64 b.kind, .int .i64 b.sev, .string b.fn, .string b.file, .int .i64 b.line, .string b.expr] 23))) := Lib.hid (((Grows.refl w).alloc _).alloc _)
  have q := Lib.hid (fun W => icompare_any a.sev b.sev W)
  go_enter Tryz.func78, Tryz.ntmps78
  go_wp2_with fail
  with_reducible refine (q.out _).mono ?_
  rintro e w1 ⟨rfl, rfl⟩
  go_wp2
  go_ret
  exact ⟨rfl, b0.out⟩
def cmpFs : List Nat := [71, 73, 75, 76, 77, 78]
theorem acm_any (a b : AlD) (i : Nat) (hi : i < 6) (w : World) : Calls Tryz.prog (cmpFs.getD i 0) #[.agg #[.int .i64 a.kind, .int .i64 a.sev, .string a.fn, .string a.file, .int .i64 a.line, .string a.expr], .agg #[.int .i64 b.kind, .int .i64 b.sev, .string b.fn, .string b.file, .int .i64 b.line, .string b.expr]] w (GivesG (.int .i64 ((keysA a b).getD i 0)) w) := by
  rcases (show i = 0 ∨ i = 1 ∨ i = 2 ∨ i = 3 ∨ i = 4 ∨ i = 5 by omega) with rfl | rfl | rfl | rfl | rfl | rfl
  · exact acm0_any a b w
  · exact acm1_any a b w
  · exact acm2_any a b w
  · exact acm3_any a b w
  · exact acm4_any a b w
  · exact acm5_any a b w
theorem acmpd_any (w : World) : Calls Tryz.prog 36 #[] w fun e w' => e = .returned (.slice (some ⟨w.heap.size, 0, none⟩) 6 6) ∧ w' = w.alloc (.cells #[.func (.func 71) #[] #[], .func (.func 73) #[] #[], .func (.func 75) #[] #[], .func (.func 76) #[] #[], .func (.func 77) #[] #[], .func (.func 78) #[] #[]] 30) := by
  go_enter Tryz.func36, Tryz.ntmps36
  go_wp2
  go_ret
  exact ⟨rfl, rfl⟩
set_option maxRecDepth 100000 in
set_option maxHeartbeats 4000000 in
theorem acmpg_any (a b : AlD) (w : World) : Calls Tryz.prog 11 #[.agg #[.int .i64 a.kind, .int .i64 a.sev, .string a.fn, .string a.file, .int .i64 a.line, .string a.expr], .agg #[.int .i64 b.kind, .int .i64 b.sev, .string b.fn, .string b.file, .int .i64 b.line, .string b.expr]] w (GivesG (.int .i64 (cmpA a b)) w) := by
  rw [cmpA_first]
  obtain ⟨u0, hu0⟩ : ∃ u0, u0 = (w.alloc (.cells #[.int .i64 a.kind, .int .i64 a.sev, .string a.fn, .string a.file, .int .i64 a.line, .string a.expr] 23)).alloc (.cells #[.int .i64 b.kind, .int .i64 b.sev, .string b.fn, .string b.file, .int .i64 b.line, .string b.expr] 23) := ⟨_, rfl⟩
  have b0 : Hid (Grows w u0) := Lib.hid (by rw [hu0]; exact ((Grows.refl w).alloc _).alloc _)
  have Z0 : Hid (Holds u0 w.heap.size 23 #[.int .i64 a.kind, .int .i64 a.sev, .string a.fn, .string a.file, .int .i64 a.line, .string a.expr]) := Lib.hid (by rw [hu0]; exact (Holds.new w _ _).alloc _)
  have Z1 : Hid (Holds u0 (w.heap.size + 1) 23 #[.int .i64 b.kind, .int .i64 b.sev, .string b.fn, .string b.file, .int .i64 b.line, .string b.expr]) := Lib.hid (by rw [hu0]; have q := Holds.new (w.alloc (.cells #[.int .i64 a.kind, .int .i64 a.sev, .string a.fn, .string a.file, .int .i64 a.line, .string a.expr] 23)) 23 #[.int .i64 b.kind, .int .i64 b.sev, .string b.fn, .string b.file, .int .i64 b.line, .string b.expr]; simpa using q)
  have hu0' := Lib.hid hu0
  clear hu0
  have qd := Lib.hid (fun W => acmpd_any W)
  have qc := Lib.hid (fun i hi W => acm_any a b i hi W)
  obtain ⟨kl, hke⟩ : ∃ kl, kl = keysA a b := ⟨_, rfl⟩
  have hkl : kl.length = 6 := by rw [hke]; rfl
  rw [← hke] at qc ⊢
  clear hke
  obtain ⟨ak, asv, af, afi, al, ax⟩ := a
  obtain ⟨bk, bsv, bf, bfi, bl, bx⟩ := b
  dsimp only at Z0 Z1 hu0' qc ⊢
  go_enter Tryz.func11, Tryz.ntmps11
  go_wp2_with fail
  rw [← hu0'.out]
  clear hu0'
  with_reducible refine (qd.out _).mono ?_
  rintro e v1 ⟨rfl, hv1⟩
  have c1 : ∀ i, i < 6 → v1.cell? ⟨u0.heap.size, i, none⟩ = some (.func (.func (cmpFs.getD i 0)) #[] #[]) := by
    intro i hi
    rw [hv1]
    have q := (Holds.new u0 30 #[.func (.func 71) #[] #[], .func (.func 73) #[] #[], .func (.func 75) #[] #[], .func (.func 76) #[] #[], .func (.func 77) #[] #[], .func (.func 78) #[] #[]]).cell i
    rw [q]
    rcases (show i = 0 ∨ i = 1 ∨ i = 2 ∨ i = 3 ∨ i = 4 ∨ i = 5 by omega) with rfl | rfl | rfl | rfl | rfl | rfl <;> rfl
  have b1 : Below u0.heap.size u0 v1 := by rw [hv1]; exact box_below _ _ _
  have b1g : Grows u0 v1 := by rw [hv1]; exact (Grows.refl u0).alloc _
  have g1 : u0.heap.size < v1.heap.size := by rw [hv1]; simp
  have C1 := Lib.hid c1
  have G1 := Lib.hid g1
  replace Z0 := Lib.hid (Z0.out.below b1 Z0.out.lt)
  replace Z1 := Lib.hid (Z1.out.below b1 Z1.out.lt)
  replace b0 := Lib.hid (b0.out.trans b1g)
  clear hv1 b1 b1g c1 g1 qd
  generalize u0.heap.size = g at *
  go_wp2
  go_loopw [10] (fun x wr => ∃ i : Nat, i ≤ 6 ∧ x = .int .i64 i ∧ Hid (∀ j, j < i → kl.getD j 0 = 0) ∧ Hid (Grows v1 wr)) (fun x _ => 6 - (intOf x).toNat)
  case atStart => exact ⟨0, by omega, rfl, Lib.hid (fun j hj => by omega), Lib.hid (Grows.refl _)⟩
  case round =>
    obtain ⟨i, hi, rfl, hz, hB⟩ := hrel
    by_cases hlt6 : i < 6
    · have hii : (i : Int) < 6 := by omega
      have hc := (hB.out.below.cell (p := ⟨g, i, none⟩) G1.out).trans (C1.out i hlt6)
      have hat := Lib.hid (fun h0 => firstN_at hz.out (show i < kl.length by omega) h0)
      have hnext : Hid (kl.getD i 0 = 0 → ∀ j, j < i + 1 → kl.getD j 0 = 0) := Lib.hid (fun h j hj => by
        by_cases e : j = i
        · rw [e]; exact h
        · exact hz.out j (by omega))
      have qi := Lib.hid (fun W => qc.out i hlt6 W)
      generalize kl.getD i 0 = v at qi hat hnext
      have hfs : cmpFs.getD i 0 = 71 ∨ cmpFs.getD i 0 = 73 ∨ cmpFs.getD i 0 = 75 ∨ cmpFs.getD i 0 = 76 ∨ cmpFs.getD i 0 = 77 ∨ cmpFs.getD i 0 = 78 := by
        rcases (show i = 0 ∨ i = 1 ∨ i = 2 ∨ i = 3 ∨ i = 4 ∨ i = 5 by omega) with rfl | rfl | rfl | rfl | rfl | rfl <;> simp [cmpFs]
      generalize cmpFs.getD i 0 = fi at hc qi hfs
      have x0 := (Z0.out.below hB.out.below Z0.out.lt).cell 0
      have x1 := (Z0.out.below hB.out.below Z0.out.lt).cell 1
      have x2 := (Z0.out.below hB.out.below Z0.out.lt).cell 2
      have x3 := (Z0.out.below hB.out.below Z0.out.lt).cell 3
      have x4 := (Z0.out.below hB.out.below Z0.out.lt).cell 4
      have x5 := (Z0.out.below hB.out.below Z0.out.lt).cell 5
      have y0 := (Z1.out.below hB.out.below Z1.out.lt).cell 0
      have y1 := (Z1.out.below hB.out.below Z1.out.lt).cell 1
      have y2 := (Z1.out.below hB.out.below Z1.out.lt).cell 2
      have y3 := (Z1.out.below hB.out.below Z1.out.lt).cell 3
      have y4 := (Z1.out.below hB.out.below Z1.out.lt).cell 4
      have y5 := (Z1.out.below hB.out.below Z1.out.lt).cell 5
      simp at x0 x1 x2 x3 x4 x5 y0 y1 y2 y3 y4 y5
      rcases hfs with rfl | rfl | rfl | rfl | rfl | rfl
      all_goals
        go_wp2_with fail
        with_reducible refine (qi.out _).mono ?_
        rintro e v2 ⟨rfl, b2⟩
        replace hB := Lib.hid (hB.out.trans b2)
        clear b2 x0 x1 x2 x3 x4 x5 y0 y1 y2 y3 y4 y5 hc qi
        by_cases h0 : v = 0
        · have hn := Lib.hid (hnext.out h0)
          subst h0
          clear hat
          go_wp2
          go_roundw
          case rel => exact ⟨i + 1, by omega, by go_num, hn, hB⟩
          case measure => simp [intOf]; omega
        · have h0' : (v == 0) = false := by rw [beq_eq_false_iff_ne]; exact h0
          have hv := Lib.hid (hat.out h0)
          clear hat hnext
          go_wp2
          go_ret
          exact ⟨by rw [hv.out]; rfl, b0.out.trans hB.out⟩
    · have hii : ¬ (i : Int) < 6 := by omega
      have hv := Lib.hid (firstN_none (l := kl) (fun j hj => hz.out j (by omega)))
      go_wp2
      go_ret
      exact ⟨by rw [hv.out]; rfl, b0.out.trans hB.out⟩
theorem acmpo_any (a b : AlD) (w : World) : Calls Tryz.prog 11 #[.agg #[.int .i64 a.kind, .int .i64 a.sev, .string a.fn, .string a.file, .int .i64 a.line, .string a.expr], .agg #[.int .i64 b.kind, .int .i64 b.sev, .string b.fn, .string b.file, .int .i64 b.line, .string b.expr]] w (Gives (.int .i64 (cmpA a b)) w) := (acmpg_any a b w).mono fun _ _ h => h.gives
end Go.Proofs.YtimgocfkogebmaaGreatDoor
namespace Go.Proofs.YtimgocfkogebmaaGreatDoor
open Go.RowKit Go.ChangeShapes Go.WideShapes Go.Deep
set_option linter.unusedVariables false
set_option linter.unusedSimpArgs false
def alC (a : AlD) : List Value := [.int .i64 a.kind, .int .i64 a.sev, .string a.fn, .string a.file, .int .i64 a.line, .string a.expr]
def al0 : AlD := ⟨0, 0, ByteArray.empty, ByteArray.empty, 0, ByteArray.empty⟩
theorem alC_len (a : AlD) : (alC a).length = 6 := rfl
theorem al_at {w : World} {a : Option Addr} {n c : Nat} {l : List AlD} (h : RO alC w a n c l) {i : Nat} (hi : i < n) :
    ∃ b off, a = some ⟨b, off, none⟩ ∧ b < w.heap.size ∧ w.cell? ⟨b, off + i * 6, none⟩ = some (.int .i64 (l.getD i al0).kind) ∧ w.cell? ⟨b, off + i * 6 + 1, none⟩ = some (.int .i64 (l.getD i al0).sev) ∧ w.cell? ⟨b, off + i * 6 + 2, none⟩ = some (.string (l.getD i al0).fn) ∧ w.cell? ⟨b, off + i * 6 + 3, none⟩ = some (.string (l.getD i al0).file) ∧ w.cell? ⟨b, off + i * 6 + 4, none⟩ = some (.int .i64 (l.getD i al0).line) ∧ w.cell? ⟨b, off + i * 6 + 5, none⟩ = some (.string (l.getD i al0).expr) := by
  obtain ⟨b, off, h1, h2, h3⟩ := h.at_ alC_len (by decide) al0 hi
  exact ⟨b, off, h1, h2, h3 0 (by decide), h3 1 (by decide), h3 2 (by decide), h3 3 (by decide), h3 4 (by decide), h3 5 (by decide)⟩
end Go.Proofs.YtimgocfkogebmaaGreatDoor
namespace Go.Proofs.YtimgocfkogebmaaGreatDoor
open Go.RowKit
set_option linter.unusedVariables false
set_option linter.unusedSimpArgs false
theorem infoAl : (Tryz.prog.info? 23).map (fun i => (i.zero.map fun z => z.cells.size, i.size, i.bytes)) = some (some 6, 6, 72) := by kernel_rfl
theorem infoAlZ : ∃ i z, Tryz.prog.info? 23 = some i ∧ i.zero = some z ∧ i.size = 6 ∧ i.bytes = 72 ∧ z.cells.size = 6 := by
  have h := infoAl
  cases hi : Tryz.prog.info? 23 with
  | none => rw [hi] at h; simp at h
  | some i =>
    rw [hi] at h
    simp at h
    obtain ⟨⟨z, hz, h1⟩, h2, h3⟩ := h
    exact ⟨i, z, rfl, hz, h2, h3, h1⟩
def alcells (l : List AlD) : List Value := l.flatMap alC
theorem alcells_snoc (l : List AlD) (x : AlD) : alcells (l ++ [x]) = alcells l ++ alC x := by simp [alcells]
theorem alcells_one {l : List AlD} {u : Value} (h : u ∈ alcells l) : u.oneCell' = true := by
  obtain ⟨a, _, ha⟩ := List.mem_flatMap.1 h
  simp [alC] at ha
  rcases ha with rfl | rfl | rfl | rfl | rfl | rfl <;> rfl
theorem ro_own {w : World} {base : Nat} {e : TypeId} {v : Value} {n : Nat} {l : List AlD} (h : w.ownsRow base e 6 v n (alcells l)) : ∃ a c, v = .slice a n c ∧ RO alC w a n c l := by
  have hl := h.1
  have h2 := flat_len alC_len l
  unfold alcells at hl
  obtain ⟨a, c, rfl, h3, h4, h5⟩ := seesC_own h
  exact ⟨a, c, rfl, ⟨by omega, h3, h4, h5⟩⟩
theorem wpList_append_al {ops : Array Oper} {rest : List Oper} {o : Oper} {a : Act} {Q : Exit → Act → World → Prop} (w : World) (hg : o.guard = none) (s x : Operand) (hop : o.op = Op.call { callee := Callee.builtin Builtin.append, args := #[s, x], argTypes := #[24, 24] })
    (w0 : World) (v : Value) (n : Nat) (l : List AlD) (hown : w.ownsRow w0.heap.size 23 6 v n (alcells l)) (hb : Below w0.heap.size w0 w) (y : AlD)
    (hsv : a.eval s = v) (hg2 : Nat) (hx : a.eval x = .slice (some ⟨hg2, 0, none⟩) 1 1) (hh : hg2 = w.heap.size) (hn : n ≤ 1000000)
    (hK : ∀ v' w', w'.ownsRow w0.heap.size 23 6 v' (n + 1) (alcells (l ++ [y])) → Below w0.heap.size w0 w' → wpList Tryz.prog ops Q rest (a.put o.dst v') w') :
    wpList Tryz.prog ops Q (o :: rest) a (w.alloc (.cells #[.int .i64 y.kind, .int .i64 y.sev, .string y.fn, .string y.file, .int .i64 y.line, .string y.expr] 23)) := by
  subst hh
  obtain ⟨i0, z0, hi, hz, h6, h72, hz6⟩ := infoAlZ
  have hb1 := box_below w #[.int .i64 y.kind, .int .i64 y.sev, .string y.fn, .string y.file, .int .i64 y.line, .string y.expr] 23
  refine wpList_append_cellsB _ hg s x 24 hop w0 23 i0 z0 6 72 Tryz.underlying24 hi hz h6 h72 hz6 (by omega) v n (alcells l) (own_below hown hb1) (hb.trans (hb1.mono hb.size)) _ _ 1 1 (alC y) rfl (seesC_lit w 23 _) (fun u hu => alcells_one (l := [y]) (by simpa [alcells] using hu)) hsv hx (by unfold maxLen; omega) (by omega) ?_
  intro v' w' h1 h2
  exact hK v' w' (by rw [alcells_snoc]; exact h1) h2
theorem alcells_app (A B : List AlD) : alcells (A ++ B) = alcells A ++ alcells B := by simp [alcells]
theorem alcells_len (L : List AlD) : (alcells L).length = L.length * 6 := flat_len alC_len L
theorem own_al_nil (w : World) (base : Nat) : w.ownsRow base 23 6 (.slice none 0 0) 0 (alcells []) := ⟨by simp [alcells], .inl ⟨rfl, rfl⟩⟩
end Go.Proofs.YtimgocfkogebmaaGreatDoor
namespace Go.Proofs.YtimgocfkogebmaaGreatDoor
open Go.Sort
set_option linter.unusedVariables false
set_option linter.unusedSimpArgs false
theorem Cm.on {α β : Type} {c : α → α → Int} {E : α → α → Prop} (h : Cm c E) (g : β → α) : Cm (fun a b => c (g a) (g b)) (fun a b => E (g a) (g b)) :=
  ⟨fun a b => h.range _ _, fun a b => h.zero _ _, fun a b => h.anti _ _, fun a b d => h.trans _ _ _⟩
theorem Cm.swo {α : Type} {c : α → α → Int} (h : Cm c (fun a b => a = b)) : SWO (ltOf c) where
  irrefl x := by
    unfold ltOf
    rw [(h.zero x x).2 rfl]
    rfl
  trans x y z h1 h2 := by
    unfold ltOf at *
    have q := h.trans x y z
    have q2 := h.trans z x y
    have a1 := h.anti x y
    have a2 := h.anti y z
    have a3 := h.anti x z
    simp at h1 h2 ⊢
    omega
  ntrans x y z h1 h2 := by
    unfold ltOf at *
    have q := h.trans z y x
    have a1 := h.anti x y
    have a2 := h.anti y z
    have a3 := h.anti x z
    simp at h1 h2 ⊢
    omega
theorem Cm.tot {α : Type} {c : α → α → Int} (h : Cm c (fun a b => a = b)) (x y : α) (h1 : ltOf c x y = false) (h2 : ltOf c y x = false) : x = y := by
  unfold ltOf at *
  have a1 := h.anti x y
  simp at h1 h2
  exact (h.zero x y).1 (by omega)
end Go.Proofs.YtimgocfkogebmaaGreatDoor
namespace Go.Proofs
open Go.Shelf
def Tryz.sortAl_ren : Go.Shelf.Ren := ⟨fun | 6 => 40 | 15 => 80 | 14 => 79 | 28 => 128 | 29 => 129 | 20 => 120 | 21 => 121 | 22 => 122 | 23 => 123 | 24 => 124 | 25 => 125 | 26 => 126 | 27 => 127 | 46 => 163 | 47 => 164 | 48 => 165 | 49 => 166 | 50 => 167 | 57 => 197 | n => n, fun | 22 => 24 | 24 => 23 | 25 => 30 | 3 => 3 | 39 => 109 | 0 => 0 | 53 => 154 | 55 => 156 | 4 => 4 | 46 => 147 | 45 => 146 | 50 => 151 | 5 => 5 | 9 => 9 | 66 => 176 | 70 => 180 | 76 => 187 | 77 => 188 | n => n, fun | n => n⟩
theorem Tryz.sortAl : Go.Proofs.SlLaysF0.n6 Tryz.prog Tryz.sortAl_ren := {
  mixed := by kernel_rfl
  f6 := ⟨Tryz.f40.name, by decide, Tryz.func40.trans (congrArg some (by kernel_rfl))⟩
  f14 := ⟨Tryz.f79.name, by decide, Tryz.func79.trans (congrArg some (by kernel_rfl))⟩
  f15 := Tryz.func80.trans (congrArg some (by kernel_rfl))
  f20 := ⟨Tryz.f120.name, by decide, Tryz.func120.trans (congrArg some (by kernel_rfl))⟩
  f21 := ⟨Tryz.f121.name, by decide, Tryz.func121.trans (congrArg some (by kernel_rfl))⟩
  f22 := ⟨Tryz.f122.name, by decide, Tryz.func122.trans (congrArg some (by kernel_rfl))⟩
  f23 := ⟨Tryz.f123.name, by decide, Tryz.func123.trans (congrArg some (by kernel_rfl))⟩
  f24 := ⟨Tryz.f124.name, by decide, Tryz.func124.trans (congrArg some (by kernel_rfl))⟩
  f25 := ⟨Tryz.f125.name, by decide, Tryz.func125.trans (congrArg some (by kernel_rfl))⟩
  f26 := ⟨Tryz.f126.name, by decide, Tryz.func126.trans (congrArg some (by kernel_rfl))⟩
  f27 := ⟨Tryz.f127.name, by decide, Tryz.func127.trans (congrArg some (by kernel_rfl))⟩
  f28 := Tryz.func128.trans (congrArg some (by kernel_rfl))
  f29 := Tryz.func129.trans (congrArg some (by kernel_rfl))
  f46 := ⟨Tryz.f163.name, by decide, Tryz.func163.trans (congrArg some (by kernel_rfl))⟩
  f47 := Tryz.func164.trans (congrArg some (by kernel_rfl))
  f48 := Tryz.func165.trans (congrArg some (by kernel_rfl))
  f49 := ⟨Tryz.f166.name, by decide, Tryz.func166.trans (congrArg some (by kernel_rfl))⟩
  f50 := ⟨Tryz.f167.name, by decide, Tryz.func167.trans (congrArg some (by kernel_rfl))⟩
  f57 := ⟨Tryz.f197.name, by decide, Tryz.func197.trans (congrArg some (by kernel_rfl))⟩
  t0 := Tryz.underlying0
  a0 := Tryz.isAgg0
  z0 := Tryz.sizeOf0
  v0 := Tryz.zeroValue0
  t3 := Tryz.underlying3
  a3 := Tryz.isAgg3
  z3 := Tryz.sizeOf3
  v3 := Tryz.zeroValue3
  t4 := Tryz.underlying4
  a4 := Tryz.isAgg4
  z4 := Tryz.sizeOf4
  v4 := Tryz.zeroValue4
  t5 := Tryz.underlying5
  a5 := Tryz.isAgg5
  z5 := Tryz.sizeOf5
  v5 := Tryz.zeroValue5
  t9 := Tryz.underlying9
  a9 := Tryz.isAgg9
  z9 := Tryz.sizeOf9
  v9 := Tryz.zeroValue9
  t22 := Tryz.underlying24
  a22 := Tryz.isAgg24
  z22 := Tryz.sizeOf24
  v22 := Tryz.zeroValue24
  t25 := Tryz.underlying30
  a25 := Tryz.isAgg30
  z25 := Tryz.sizeOf30
  v25 := Tryz.zeroValue30
  t39 := Tryz.underlying109
  a39 := Tryz.isAgg109
  z39 := Tryz.sizeOf109
  v39 := Tryz.zeroValue109
  t45 := Tryz.underlying146
  a45 := Tryz.isAgg146
  z45 := Tryz.sizeOf146
  v45 := Tryz.zeroValue146
  t46 := Tryz.underlying147
  a46 := Tryz.isAgg147
  z46 := Tryz.sizeOf147
  v46 := Tryz.zeroValue147
  t50 := Tryz.underlying151
  a50 := Tryz.isAgg151
  z50 := Tryz.sizeOf151
  v50 := Tryz.zeroValue151
  t53 := Tryz.underlying154
  a53 := Tryz.isAgg154
  z53 := Tryz.sizeOf154
  v53 := Tryz.zeroValue154
  t55 := Tryz.underlying156
  a55 := Tryz.isAgg156
  z55 := Tryz.sizeOf156
  v55 := Tryz.zeroValue156
  t66 := Tryz.underlying176
  a66 := Tryz.isAgg176
  z66 := Tryz.sizeOf176
  v66 := Tryz.zeroValue176
  t70 := Tryz.underlying180
  a70 := Tryz.isAgg180
  z70 := Tryz.sizeOf180
  v70 := Tryz.zeroValue180
  t76 := Tryz.underlying187
  a76 := Tryz.isAgg187
  z76 := Tryz.sizeOf187
  v76 := Tryz.zeroValue187
  t77 := Tryz.underlying188
  a77 := Tryz.isAgg188
  z77 := Tryz.sizeOf188
  v77 := Tryz.zeroValue188 }
end Go.Proofs
namespace Go.Proofs.YtimgocfkogebmaaGreatDoor
open Go.RowKit
set_option linter.unusedVariables false
set_option linter.unusedSimpArgs false
instance : Inhabited AlD := ⟨al0⟩
theorem alsort_is (l : List AlD) : (l.mergeSort fun x y => !(ltOf cmpA) y x) = sortC cmpA l := by
  have hO := cmA.swo
  have h := List.pairwise_mergeSort (le := fun x y => !(ltOf cmpA) y x) (fun a b e h1 h2 => by
    simp only [Bool.not_eq_true'] at *
    exact hO.ntrans e b a h2 h1) (fun a b => by
    simp only [Bool.or_eq_true, Bool.not_eq_true']
    cases h : ltOf cmpA b a
    · exact .inl rfl
    · right
      cases h2 : ltOf cmpA a b
      · rfl
      · have := hO.trans a b a h2 h
        rw [hO.irrefl] at this
        cases this) l
  refine sortC_is cmA (List.mergeSort_perm _ _) (h.imp fun {a b} hab => ?_)
  have a1 := cmA.anti a b
  unfold ltOf at hab
  simp at hab
  omega
theorem sortA_len (l : List AlD) : (sortC cmpA l).length = l.length := (sortC_perm cmpA l).length_eq
def AlGives (w : World) (l : List AlD) (e : Ending) (w' : World) : Prop := ∃ a c, e = .returned (.slice a l.length c) ∧ RO alC w' a l.length c l ∧ Below w.heap.size w w'
def AlOwn (w : World) (l : List AlD) (e : Ending) (w' : World) : Prop := ∃ v, e = .returned v ∧ w'.ownsRow w.heap.size 23 6 v l.length (alcells l) ∧ Below w.heap.size w w'
set_option maxRecDepth 100000 in
set_option maxHeartbeats 1000000 in
theorem aclone_any (a : Option Addr) (n c : Nat) (l : List AlD) (w : World) (h : RO alC w a n c l) (hn : n ≤ 1000000) : Calls Tryz.prog 39 #[.slice a n c] w (AlOwn w l) := by
  have hlen := h.len
  cases a with
  | none =>
    have hl : l = [] := by
      rcases h.sees with e | ⟨b, off, e, _⟩
      · have h1 := congrArg List.length e
        rw [flat_len alC_len] at h1
        simp at h1
        exact List.length_eq_zero_iff.1 (by omega)
      · cases e
    subst hl
    obtain rfl : n = 0 := hlen
    have hq := fun W => Lib.run_eql_slice_nil_nil (P := Tryz.prog) W (t := 24) (e := 23) 0 c Tryz.underlying24
    clear h
    go_enter Tryz.func39, Tryz.ntmps39
    go_wp2
    go_ret
    exact ⟨_, rfl, own_al_nil w _, Below.refl _ _⟩
  | some ad =>
    obtain ⟨i0, z0, hi, hz, h6, h72, hz6⟩ := infoAlZ
    have hb1 := Lib.hid (box_below w #[] 23)
    have hs := Lib.hid ((h.sees.below hb1.out).mono hb1.out.size)
    have hro : Hid ((w.alloc (.cells #[] 23)).ownsRow w.heap.size 23 6 (.slice (some ⟨w.heap.size, 0, none⟩) 0 0) 0 []) := Lib.hid (own_cells w 23 6 0 #[] (by simp) (by simp [maxLen]))
    have hfl : Hid ((alcells l).length = n * 6) := Lib.hid (by rw [alcells_len, hlen])
    have hone : Hid (∀ u ∈ alcells l, u.oneCell' = true) := Lib.hid (fun u hu => alcells_one hu)
    have hs' : Hid (SeesC (w.alloc (.cells #[] 23)).heap.size (w.alloc (.cells #[] 23)) (some ad) (alcells l)) := hs
    have hlen' := Lib.hid hlen
    clear h hlen hs
    generalize hcse : alcells l = cs at *
    have hcse' := Lib.hid hcse
    clear hcse
    have hq := fun W => Lib.run_eql_slice_some_nil (P := Tryz.prog) W (t := 24) (e := 23) ad n c Tryz.underlying24
    go_enter Tryz.func39, Tryz.ntmps39
    go_wp2_with (at_builtin; go_loud (refine wpList_append_cellsB _ rfl (.tmp 5) (.tmp 6) 24 rfl w 23 i0 z0 6 72 Tryz.underlying24 hi hz h6 h72 hz6 (by decide) _ 0 [] hro.out hb1.out _ (some ad) n c cs hfl.out hs'.out hone.out rfl rfl (by simp [maxLen]; omega) (by omega) ?_); intro v3 w3 own3 b3; simp only [List.nil_append, Nat.zero_add] at own3)
    go_ret
    exact ⟨v3, rfl, by rw [← hlen'.out, hcse'.out]; exact own3, b3⟩
theorem below_of {X : List Nat} {B : Nat} {w w' : World} (h : BelowE X B w w') (hx : ∀ x ∈ X, B ≤ x) : Below B w w' := ⟨h.os, h.tape, h.output, h.size, fun k hk => h.block k hk (fun hm => by have := hx k hm; omega)⟩
theorem sortK_belowE (w : World) (g off m : Nat) (d : Array AlD) (os : Array Obj) : BelowE [g] w.heap.size w (sortWorldK alC 6 w g off m d os) := by
  unfold sortWorldK Go.Sort.putRowK
  refine ⟨rfl, rfl, rfl, ?_, fun k hk hx => ?_⟩
  · rw [Go.Sort.size_grow]
    simp [Go.Sort.putRow, Go.Sort.mapBlock, Go.Sort.ahead]
  · rw [Go.Sort.heap_grow_old]
    · have hne : g ≠ k := fun e => hx (by simp [e])
      simp [Go.Sort.putRow, Go.Sort.mapBlock, Go.Sort.ahead, Array.getElem?_modify, hne]
    · simpa [Go.Sort.putRow, Go.Sort.mapBlock, Go.Sort.ahead] using hk
theorem flatK_at (l : List AlD) (t : Nat) (ht : t < l.length * 6) : (alcells l)[t]? = some (Go.Sort.flatK alC 6 l.toArray)[t]! := by
  rw [Go.Sort.get_flatK _ _ _ _ (by simpa using ht)]
  have e := flat_at alC_len l (t / 6) (t % 6) (Nat.mod_lt _ (by decide))
  rw [Nat.div_add_mod' t 6] at e
  have hq : t / 6 < l.length := by omega
  unfold alcells
  rw [e, getElem!_pos _ (t / 6) (by simpa using hq)]
  simp only [hq, List.getElem?_eq_getElem, Option.bind_some, List.getElem_toArray]
  have h6 : t % 6 < (alC l[t / 6]).length := by rw [alC_len]; omega
  rw [getElem!_pos (alC l[t / 6]) (t % 6) h6, List.getElem?_eq_getElem h6]
set_option maxHeartbeats 1000000 in
theorem alsort_any (v : Value) (l : List AlD) (w0 w : World) (h : w.ownsRow w0.heap.size 23 6 v l.length (alcells l)) (hb : Below w0.heap.size w0 w) (hn : l.length ≤ 1000000) :
    Calls Tryz.prog 40 #[v, .func (.func 11) #[] #[]] w fun e w' => e = .returned (.tuple #[]) ∧ (∃ a c, v = .slice a l.length c ∧ RO alC w' a l.length c (sortC cmpA l)) ∧ Below w0.heap.size w0 w' := by
  by_cases hn0 : l.length = 0
  · have hl : l = [] := List.length_eq_zero_iff.1 hn0
    subst hl
    obtain ⟨a, c, rfl, hro⟩ := ro_own h
    have q := AnyF.slices_SortFunc_none Tryz.sortAl a c (.func (.func 11) #[] #[]) w
    refine Calls.mono q ?_
    rintro e w' ⟨rfl, rfl⟩
    exact ⟨rfl, ⟨a, c, rfl, hro⟩, hb⟩
  have eg : ∀ args w, (callFunc 11 args).run Tryz.prog w = .ok (.enter 11 args) w := enters_of Tryz.func11 (by kernel_rfl) rfl
  have hl6 := alcells_len l
  rcases h.2 with ⟨_, h0⟩ | ⟨g, cap, cur, rfl, hbg, hgg, hnc, hcm, hcs, htake⟩
  · exact absurd h0 hn0
  have hgl : g < w.heap.size := (Array.getElem?_eq_some_iff.1 hgg).1
  have hH : Go.Sort.HoldsK alC 6 w g 0 l.toArray := by
    intro j hj
    rw [Go.Sort.size_flatK] at hj
    have hj' : j < l.length * 6 := by simpa using hj
    have e := flatK_at l j hj'
    rw [← htake] at e
    have hcur : cur[j]? = some (Go.Sort.flatK alC 6 l.toArray)[j]! := by
      rw [List.getElem?_take, if_pos hj'] at e
      simpa using e
    have H : Holds w g 23 cur := hgg
    rw [Nat.zero_add]
    exact ⟨(H.cell j).trans hcur, H.free j⟩
  have hcmp : CmpLays Tryz.prog 11 #[] alC 6 cmpA g 0 l.toArray.size w := by
    intro m os dk hs x y
    exact (acmpg_any x y _).mono fun e w' h => h
  have hS := AnyQ.slices_SortFunc_total Tryz.sortAl 6 (fun w => by kernel_rfl) (fun w => by kernel_rfl) alC alC_len (fun x v hv => alcells_one (l := [x]) (by simpa [alcells] using hv)) cmpA cmA.swo 11 #[] g 0 cap l.toArray w eg hcmp hH hgl (by simp; omega) cmA.tot
  have hsz : l.toArray.size = l.length := by simp
  rw [hsz, List.toList_toArray, alsort_is] at hS
  refine Calls.mono hS ?_
  rintro e w' ⟨rfl, m, os, rfl⟩
  have hE := sortK_belowE w g 0 m (sortC cmpA l).toArray os
  refine ⟨rfl, ⟨some ⟨g, 0, none⟩, cap, rfl, ⟨(sortA_len l).symm, hnc, hcm, .inr ⟨g, 0, rfl, Nat.lt_of_lt_of_le hgl hE.size, fun i v hv => ?_⟩⟩⟩, hb.trans (below_of (hE.mono hb.size) (by intro x hx; simp at hx; omega))⟩
  have hi : i < (sortC cmpA l).length * 6 := by
    have := (List.getElem?_eq_some_iff.1 hv).1
    rwa [flat_len alC_len] at this
  have e := flatK_at (sortC cmpA l) i hi
  unfold alcells at e
  rw [e] at hv
  injection hv with hv
  have hH2 : Go.Sort.HoldsK alC 6 (sortWorldK alC 6 w g 0 m (sortC cmpA l).toArray os) g 0 (sortC cmpA l).toArray := holdsK_sortWorldK_c alC 6 w g 0 l.toArray (sortC cmpA l).toArray m os hH hgl (by simp [sortA_len])
  have q := (hH2 i (by rw [Go.Sort.size_flatK]; simpa using hi)).1
  rw [q]
  exact congrArg some hv
set_option maxRecDepth 100000 in
theorem asort_any (a : Option Addr) (n c : Nat) (l : List AlD) (w : World) (h : RO alC w a n c l) (hn : n ≤ 1000000) : Calls Tryz.prog 14 #[.slice a n c] w (AlGives w (sortC cmpA l)) := by
  have q1 := Lib.hid (aclone_any a n c l w h hn)
  have hln : l.length ≤ 1000000 := by rw [← h.len]; exact hn
  have q2 := Lib.hid (fun v W hW hb => alsort_any v l w W hW hb hln)
  clear h
  go_enter Tryz.func14, Tryz.ntmps14
  go_wp2_with fail
  with_reducible refine q1.out.mono ?_
  rintro e w1 ⟨v, rfl, own, b1⟩
  have qq := Lib.hid (q2.out v w1 own b1)
  clear q1 q2 own b1
  go_wp2_with fail
  with_reducible refine qq.out.mono ?_
  rintro e w2 ⟨rfl, ⟨a2, c2, rfl, hro⟩, b2⟩
  clear qq
  go_wp2
  go_ret
  exact ⟨a2, c2, by rw [sortA_len]; rfl, by rw [sortA_len]; exact hro, b2⟩
end Go.Proofs.YtimgocfkogebmaaGreatDoor
namespace Go.Proofs.YtimgocfkogebmaaGreatDoor
open Go.Lib
set_option linter.unusedVariables false
def clip (n : Int) : Int := if 1099511627776 < n then 1099511627776 else if n < -1099511627776 then -1099511627776 else n
theorem clip_in (n : Int) : -1099511627776 ≤ clip n ∧ clip n ≤ 1099511627776 := by unfold clip; split <;> (try split) <;> omega
theorem clip_id {n : Int} (h0 : -1099511627776 ≤ n) (h1 : n ≤ 1099511627776) : clip n = n := by unfold clip; rw [if_neg (by omega), if_neg (by omega)]
def infT : List UInt8 := [105, 110, 102]
def ninfT : List UInt8 := [45, 105, 110, 102]
def showV (v : Int) : List UInt8 := if v = 1099511627776 then infT else if v = -1099511627776 then ninfT else itoa v
def isDig (c : UInt8) : Prop := 48 ≤ c.toNat ∧ c.toNat ≤ 57
instance (c : UInt8) : Decidable (isDig c) := by unfold isDig; infer_instance
def val10 (l : List UInt8) : Nat := l.foldl (fun a c => 10 * a + (c.toNat - 48)) 0
theorem val10_snoc (l : List UInt8) (c : UInt8) : val10 (l ++ [c]) = 10 * val10 l + (c.toNat - 48) := by simp [val10]
theorem val10_app_le (l r : List UInt8) : val10 l ≤ val10 (l ++ r) := by
  induction r generalizing l with
  | nil => simp
  | cons c r ih =>
    have h1 := ih (l ++ [c])
    rw [val10_snoc] at h1
    rw [show l ++ c :: r = l ++ [c] ++ r by simp]
    omega
def canon (l : List UInt8) : Prop := l ≠ [] ∧ (∀ c ∈ l, isDig c) ∧ (l.head? = some 48 → l = [48])
instance (l : List UInt8) : Decidable (canon l) := by unfold canon; infer_instance
theorem dig_back {c : UInt8} (h : isDig c) : UInt8.ofNat (48 + (c.toNat - 48)) = c := by
  rw [show 48 + (c.toNat - 48) = c.toNat by have := h.1; omega]
  exact UInt8.ofNat_toNat
theorem dig_of {d : Nat} (h : d < 10) : isDig (UInt8.ofNat (48 + d)) ∧ (UInt8.ofNat (48 + d)).toNat - 48 = d := by
  have e : (UInt8.ofNat (48 + d)).toNat = 48 + d := by
    rw [UInt8.toNat_ofNat']; omega
  unfold isDig
  rw [e]; omega
theorem val10_pos {l : List UInt8} (h0 : l ≠ []) (hd : ∀ c ∈ l, isDig c) (hh : l.head? ≠ some 48) : 0 < val10 l := by
  cases l with
  | nil => exact absurd rfl h0
  | cons c r =>
    have h1 := val10_app_le [c] r
    have hc := hd c (by simp)
    have : c.toNat ≠ 48 := by
      intro e
      apply hh
      simp only [List.head?_cons, Option.some.injEq]
      apply UInt8.toNat_inj.1
      rw [e]; rfl
    have e2 : val10 [c] = c.toNat - 48 := by simp [val10]
    have := hc.1
    rw [show c :: r = [c] ++ r by rfl]
    omega
theorem canon_show {l : List UInt8} (h : canon l) : decDigits (val10 l) = l := by
  suffices H : ∀ (n : Nat) (l : List UInt8), l.length = n → canon l → decDigits (val10 l) = l from H _ l rfl h
  intro n
  induction n with
  | zero => intro l hl hc; exact absurd (List.eq_nil_of_length_eq_zero hl) hc.1
  | succ n ih =>
    intro l hl hc
    obtain ⟨p, c, rfl⟩ : ∃ p c, l = p ++ [c] := ⟨l.dropLast, l.getLast hc.1, (List.dropLast_concat_getLast hc.1).symm⟩
    have hp : p.length = n := by simp at hl; omega
    have hcd : isDig c := hc.2.1 c (by simp)
    have hlt : c.toNat - 48 < 10 := by have := hcd.1; have := hcd.2; omega
    rw [val10_snoc]
    by_cases hpe : p = []
    · subst hpe
      rw [show val10 [] = 0 from rfl, Nat.mul_zero, Nat.zero_add, decDigits, dif_pos hlt, dig_back hcd]
      rfl
    · have hph : p.head? ≠ some 48 := by
        intro e
        have h2 := hc.2.2 (by rw [List.head?_append, e]; rfl)
        have h3 := congrArg List.length h2
        simp at h3
        exact hpe h3
      have hpd : ∀ x ∈ p, isDig x := fun x hx => hc.2.1 x (by simp [hx])
      have hpos := val10_pos hpe hpd hph
      rw [decDigits, dif_neg (by omega), show (10 * val10 p + (c.toNat - 48)) / 10 = val10 p by omega, show (10 * val10 p + (c.toNat - 48)) % 10 = c.toNat - 48 by omega, dig_back hcd]
      rw [ih p hp ⟨hpe, hpd, fun e => absurd e hph⟩]
theorem show_val (u : Nat) : val10 (decDigits u) = u ∧ canon (decDigits u) ∧ (0 < u → (decDigits u).head? ≠ some 48) := by
  induction u using Nat.strongRecOn with
  | ind u ih =>
    by_cases h : u < 10
    · rw [decDigits, dif_pos h]
      have := dig_of h
      refine ⟨by simpa [val10] using this.2, ⟨by simp, by simpa using this.1, ?_⟩, ?_⟩
      · intro e; simp at e; simp [e]
      · intro h0 e
        simp only [List.head?_cons, Option.some.injEq] at e
        rw [e] at this
        simp at this
        omega
    · obtain ⟨h1, h2, h3⟩ := ih (u / 10) (by omega)
      have hd := dig_of (d := u % 10) (by omega)
      rw [decDigits, dif_neg h]
      have hh : (decDigits (u / 10) ++ [UInt8.ofNat (48 + u % 10)]).head? ≠ some 48 := by
        intro e
        rw [List.head?_append] at e
        have h4 := h3 (by omega)
        cases hx : (decDigits (u / 10)).head? with
        | none => rw [List.head?_eq_none_iff] at hx; exact h2.1 hx
        | some x => rw [hx] at e h4; simp at e; exact h4 (by rw [e])
      refine ⟨by rw [val10_snoc, h1, hd.2]; omega, ⟨by simp, ?_, fun e => absurd e hh⟩, fun _ => hh⟩
      intro c hc
      rcases List.mem_append.1 hc with hc | hc
      · exact h2.2.1 c hc
      · rw [List.mem_singleton] at hc; subst hc; exact hd.1
theorem canon_len {l : List UInt8} (h : canon l) (hl : val10 l < 1099511627776) : l.length ≤ 13 := by
  have h1 : l = decDigits (val10 l) := (canon_show h).symm
  rw [h1, decDigits_length]
  have : ∀ k u, u < 10 ^ (k + 1) → nDigits u ≤ k + 1 := by
    intro k
    induction k with
    | zero => intro u hu; rw [nDigits_small (by omega)]; omega
    | succ k ih =>
      intro u hu
      by_cases h10 : u < 10
      · rw [nDigits_small h10]; omega
      · have := ih (u / 10) (by rw [Nat.pow_succ] at hu; omega)
        rw [nDigits, dif_neg h10]; omega
  have := this 12 (val10 l) (by omega)
  omega
end Go.Proofs.YtimgocfkogebmaaGreatDoor
namespace Go.Proofs.YtimgocfkogebmaaGreatDoor
open Go.RowKit
set_option linter.unusedVariables false
theorem clip_any (n : Int) (w : World) : Calls Tryz.prog 154 #[.int .i64 n] w fun e w' => e = .returned (.int .i64 (clip n)) ∧ w = w' := by
  have hf : Hid (clip n = if 1099511627776 < n then 1099511627776 else if n < -1099511627776 then -1099511627776 else n) := Lib.hid rfl
  generalize clip n = F at *
  go_enter Tryz.func154, Tryz.ntmps154
  go_wp2
  all_goals (go_ret; refine ⟨ret_int ?_, rfl⟩; rw [hf.out]; clear hf; grind)
end Go.Proofs.YtimgocfkogebmaaGreatDoor
namespace Go.Proofs.YtimgocfkogebmaaGreatDoor
open Go.RowKit
set_option linter.unusedVariables false
def Tab (w : World) : Prop := Lib.TabIs Tryz.prog w "internal/strconv.uint64pow10" .u64 Lib.pow10Tab
theorem globalTab : (Tryz.prog.globalNamed "internal/strconv.uint64pow10").isSome = true := by kernel_rfl
theorem Tab.on {w w' : World} (h : Tab w) (hb : Below w.heap.size w w') : Tab w' := by
  obtain ⟨g, hg⟩ := Option.isSome_iff_exists.1 globalTab
  exact Joins.tab_stays hg h hb (Nat.le_refl _)
theorem below_drewn (w : World) (q : Nat) (os : Array Obj) : Below w.heap.size w (Sort.grow (w.drewN q) os) :=
  ⟨rfl, rfl, rfl, by simp [Sort.grow], fun i hi => by
    show ((w.drewN q).heap ++ os)[i]? = _
    rw [Array.getElem?_append_left (by show i < w.heap.size; omega)]
    rfl⟩
end Go.Proofs.YtimgocfkogebmaaGreatDoor
namespace Go.Proofs.YtimgocfkogebmaaGreatDoor
open Go.RowKit
set_option linter.unusedVariables false
def strB (l : List UInt8) : ByteArray := ⟨l.toArray⟩
theorem strB_cons (c : UInt8) (l : List UInt8) : strB [c] ++ strB l = strB (c :: l) := by
  apply ByteArray.ext
  apply Array.toList_inj.1
  simp [strB]
theorem itoa_any (n : Int) (h0 : -9223372036854775808 ≤ n) (h1 : n ≤ 9223372036854775807) (w : World) (ht : Tab w) : Calls Tryz.prog 207 #[.int .i64 n] w (Gives (.string (strB (Lib.itoa n))) w) := by
  refine (Tryz.strconv_Itoa n h0 h1 w ht).mono ?_
  rintro e w' ⟨rfl, k, os, rfl⟩
  exact ⟨rfl, below_drewn w k os⟩
theorem show_max {v : Int} (h : v = 1099511627776) : showV v = infT := by subst h; decide
theorem show_min {v : Int} (h : v = -1099511627776) : showV v = ninfT := by subst h; decide
theorem show_mid {v : Int} (h : ¬ v = 1099511627776) (h2 : ¬ v = -1099511627776) : showV v = Lib.itoa v := by unfold showV; rw [if_neg h, if_neg h2]
theorem show_any (n : Int) (w : World) (ht : Tab w) : Calls Tryz.prog 202 #[.int .i64 n] w (Gives (.string (strB (showV (clip n)))) w) := by
  have hc := Lib.hid (clip_any n)
  have hi := clip_in n
  generalize clip n = v at *
  have hit := Lib.hid (fun w ht => itoa_any v (by omega) (by omega) w ht)
  by_cases h1 : v = 1099511627776
  · rw [show_max h1]
    go_enter Tryz.func202, Tryz.ntmps202
    go_wp2_with fail
    refine (hc.out _).mono ?_
    rintro e w' ⟨rfl, rfl⟩
    go_wp2
    go_ret
    exact ⟨rfl, Below.refl _ _⟩
  · have d1 : (v == 1099511627776) = false := by simp [h1]
    by_cases h2 : v = -1099511627776
    · rw [show_min h2]
      go_enter Tryz.func202, Tryz.ntmps202
      go_wp2_with fail
      refine (hc.out _).mono ?_
      rintro e w' ⟨rfl, rfl⟩
      go_wp2
      go_ret
      exact ⟨rfl, Below.refl _ _⟩
    · have d2 : (v == -1099511627776) = false := by simp [h2]
      rw [show_mid h1 h2]
      generalize Lib.itoa v = T at *
      go_enter Tryz.func202, Tryz.ntmps202
      go_wp2_with fail
      refine (hc.out _).mono ?_
      rintro e w' ⟨rfl, rfl⟩
      go_wp2_with fail
      refine (hit.out _ ht).mono ?_
      rintro e w' ⟨rfl, hb⟩
      go_wp2
      go_ret
      exact ⟨rfl, hb⟩
def digU (d : Int) : UInt8 := UInt8.ofNat (48 + d.toNat)
set_option maxRecDepth 100000 in
theorem dig_slice (d : Int) (h0 : 0 ≤ d) (h1 : d < 10) (W : World) : (Instr.slice 9 (.string ⟨#[48, 49, 50, 51, 52, 53, 54, 55, 56, 57]⟩) (some (.int .i64 d)) (some (.int .i64 (d + 1))) none).run Tryz.prog W = .ok (.string (strB [digU d])) W := by
  have : d = 0 ∨ d = 1 ∨ d = 2 ∨ d = 3 ∨ d = 4 ∨ d = 5 ∨ d = 6 ∨ d = 7 ∨ d = 8 ∨ d = 9 := by omega
  rcases this with rfl | rfl | rfl | rfl | rfl | rfl | rfl | rfl | rfl | rfl <;> rfl
def rest10 (m : Nat) (s : List UInt8) : List UInt8 := if m = 0 then s else Lib.decDigits m ++ s
theorem rest10_len (m : Nat) (s : List UInt8) : s.length ≤ (rest10 m s).length := by unfold rest10; split <;> simp
theorem strB_size (l : List UInt8) : (strB l).size = l.length := by simp [strB, ByteArray.size]
theorem rest10_zero {m : Nat} {s : List UInt8} (h : ¬ 0 < m) : rest10 m s = s := by unfold rest10; rw [if_pos (by omega)]
theorem rest10_step {m : Nat} {s : List UInt8} (h : 0 < m) : rest10 (m / 10) (digU ((m % 10 : Nat) : Int) :: s) = rest10 m s := by
  unfold rest10
  rw [if_neg (show ¬ m = 0 by omega)]
  by_cases h1 : m < 10
  · rw [if_pos (by omega), Lib.decDigits_one h1, Nat.mod_eq_of_lt h1]
    simp [digU]
  · rw [if_neg (by omega)]
    conv => rhs; rw [Lib.decDigits, dif_neg h1]
    simp only [digU, Int.toNat_natCast, List.append_assoc, List.singleton_append]
theorem rest10_first (u : Nat) : rest10 (u / 10) [digU ((u % 10 : Nat) : Int)] = Lib.decDigits u := by
  by_cases h : u = 0
  · subst h; decide +kernel
  · rw [rest10_step (by omega)]
    unfold rest10; rw [if_neg h]; simp
theorem digits_nat (u : Nat) (hu : u < 4611686018427387904) (w : World) : Calls Tryz.prog 139 #[.int .i64 u] w fun e w' => e = .returned (.string (strB (Lib.decDigits u))) ∧ w = w' := by
  have hf := Lib.hid (rest10_first u)
  have hF : (Lib.decDigits u).length ≤ 21 := by
    have := Lib.itoa_length_le (u : Int) (by omega) (by omega)
    rwa [Lib.itoa_nonneg] at this
  generalize Lib.decDigits u = F at *
  have d0 : decide ((u : Int) < 0) = false := by simp
  have t1 : ((u : Int)).tdiv 10 = ((u / 10 : Nat) : Int) := by rw [Int.tdiv_eq_ediv_of_nonneg (by omega)]; omega
  have t2 : ((u : Int)).tmod 10 = ((u % 10 : Nat) : Int) := by rw [Int.tmod_eq_emod_of_nonneg (by omega)]; omega
  have hsl := dig_slice ((u % 10 : Nat) : Int) (by omega) (by omega)
  have hm9 : ((u % 10 : Nat) : Int) < 10 := by omega
  have hu10 : u / 10 < 4611686018427387904 := by omega
  generalize digU ((u % 10 : Nat) : Int) = c0 at *
  generalize hq : u % 10 = r0 at *
  generalize u / 10 = q0 at *
  clear hq
  go_enter Tryz.func139, Tryz.ntmps139
  go_wp2
  go_loop [0, 3] (fun a b => ∃ (m : Nat) (s : List UInt8), m < 4611686018427387904 ∧ Hid (rest10 m s = F) ∧ a = .int .i64 m ∧ b = .string (strB s)) (fun a _ => (intOf a).toNat)
  case atStart => exact ⟨q0, [c0], hu10, hf, rfl, rfl⟩
  case round =>
    obtain ⟨m, s, hm, hr, rfl, rfl⟩ := hrel
    by_cases hpos : 0 < m
    · have t1 : ((m : Int)).tdiv 10 = ((m / 10 : Nat) : Int) := by rw [Int.tdiv_eq_ediv_of_nonneg (by omega)]; omega
      have t2 : ((m : Int)).tmod 10 = ((m % 10 : Nat) : Int) := by rw [Int.tmod_eq_emod_of_nonneg (by omega)]; omega
      have hsl := dig_slice ((m % 10 : Nat) : Int) (by omega) (by omega)
      have hm9 : ((m % 10 : Nat) : Int) < 10 := by omega
      have hst := Lib.hid (rest10_step (s := s) hpos)
      have hlt : m / 10 < m := by omega
      have hcons := strB_cons (digU ((m % 10 : Nat) : Int)) s
      have hsz : ¬ 9223372036854775807 < (strB [digU ((m % 10 : Nat) : Int)]).size + (strB s).size := by
        have h1 := rest10_len m s
        rw [hr.out] at h1
        rw [strB_size, strB_size]; simp; omega
      generalize digU ((m % 10 : Nat) : Int) = c at *
      generalize m % 10 = r at *
      generalize m / 10 = q at *
      go_wp2
      go_round
      case rel => exact ⟨q, c :: s, by omega, Lib.hid (by rw [hst.out, hr.out]), by go_num, rfl⟩
      case measure => simp [intOf]; omega
    · have hz := Lib.hid (rest10_zero (s := s) hpos)
      have d4 : decide ((0 : Int) < (m : Int)) = false := by simp; omega
      have d5 : m = 0 := by omega
      go_wp2
      go_ret
      exact ⟨by rw [← hr.out, hz.out]; rfl, rfl⟩
theorem digits_any (n : Int) (h0 : -4611686018427387904 < n) (h1 : n < 4611686018427387904) (w : World) : Calls Tryz.prog 139 #[.int .i64 n] w fun e w' => e = .returned (.string (strB (Lib.itoa n))) ∧ w = w' := by
  by_cases hn : n < 0
  · obtain ⟨u, hu⟩ : ∃ u : Nat, -n = (u : Int) := ⟨n.natAbs, by omega⟩
    have hc := Lib.hid (fun w => digits_nat u (by omega) w)
    have hit : Lib.itoa n = 45 :: Lib.decDigits u := by rw [show n = -(u : Int) by omega, Lib.itoa_neg u (by omega)]
    have hF : (Lib.decDigits u).length ≤ 21 := by
      have := Lib.itoa_length_le (u : Int) (by omega) (by omega)
      rwa [Lib.itoa_nonneg] at this
    rw [hit, ← strB_cons]
    generalize Lib.decDigits u = F at *
    have hsz : ¬ 9223372036854775807 < (⟨#[45]⟩ : ByteArray).size + (strB F).size := by
      rw [strB_size]; show ¬ 9223372036854775807 < 1 + _; omega
    clear hit
    go_enter Tryz.func139, Tryz.ntmps139
    go_wp2_with fail
    refine (hc.out _).mono ?_
    rintro e w' ⟨rfl, rfl⟩
    go_wp2
    go_ret
    exact ⟨rfl, rfl⟩
  · obtain ⟨u, rfl⟩ := Int.eq_ofNat_of_zero_le (show 0 ≤ n by omega)
    rw [Lib.itoa_nonneg]
    exact digits_nat u (by omega) w
theorem refshow_any (v : Int) (h0 : -4611686018427387904 < v) (h1 : v < 4611686018427387904) (w : World) : Calls Tryz.prog 94 #[.int .i64 v] w fun e w' => e = .returned (.string (strB (showV v))) ∧ w = w' := by
  have hit := Lib.hid (fun w => digits_any v h0 h1 w)
  by_cases h1 : v = 1099511627776
  · rw [show_max h1]
    go_enter Tryz.func94, Tryz.ntmps94
    go_wp2
    go_ret
    exact ⟨rfl, rfl⟩
  · have d1 : (v == 1099511627776) = false := by simp [h1]
    by_cases h2 : v = -1099511627776
    · rw [show_min h2]
      go_enter Tryz.func94, Tryz.ntmps94
      go_wp2
      go_ret
      exact ⟨rfl, rfl⟩
    · have d2 : (v == -1099511627776) = false := by simp [h2]
      rw [show_mid h1 h2]
      generalize Lib.itoa v = T at *
      go_enter Tryz.func94, Tryz.ntmps94
      go_wp2_with fail
      refine (hit.out _).mono ?_
      rintro e w' ⟨rfl, rfl⟩
      go_wp2
      go_ret
      exact ⟨rfl, rfl⟩
end Go.Proofs.YtimgocfkogebmaaGreatDoor
namespace Go.Proofs.YtimgocfkogebmaaGreatDoor
open Go.RowKit
set_option linter.unusedVariables false
set_option linter.unusedSimpArgs false
def nmV (l : List ByteArray) (x : Int) : ByteArray := l.getD (x.toNat - 1) e0
def vT (c : Int) : ByteArray := strB (showV (clip c))
theorem decDigits_len {u : Nat} (h : u < 1099511627776) : (Lib.decDigits u).length ≤ 13 := canon_len (show_val u).2.1 (by rw [(show_val u).1]; exact h)
theorem vT_size (c : Int) : (vT c).size ≤ 14 := by
  unfold vT
  rw [strB_size]
  have h := clip_in c
  generalize clip c = v at *
  unfold showV
  split
  · decide
  · split
    · decide
    · unfold Lib.itoa
      split
      · have := decDigits_len (u := v.natAbs) (by omega)
        simp; omega
      · have := decDigits_len (u := v.toNat) (by omega)
        omega
def letT (l : List ByteArray) (x y c : Int) : ByteArray :=
  if y = 0 then (nmV l x ++ (⟨#[32, 58, 61, 32]⟩ : ByteArray)) ++ vT c else if c = 0 then (nmV l x ++ (⟨#[32, 58, 61, 32]⟩ : ByteArray)) ++ nmV l y else if c < 0 then (((nmV l x ++ (⟨#[32, 58, 61, 32]⟩ : ByteArray)) ++ nmV l y) ++ (⟨#[32, 45, 32]⟩ : ByteArray)) ++ vT (-c) else (((nmV l x ++ (⟨#[32, 58, 61, 32]⟩ : ByteArray)) ++ nmV l y) ++ (⟨#[32, 43, 32]⟩ : ByteArray)) ++ vT c
def anyT (l : List ByteArray) (x c d : Int) : ByteArray := ((((((nmV l x ++ (⟨#[32, 58, 61, 32]⟩ : ByteArray)) ++ (⟨#[97, 110, 121]⟩ : ByteArray)) ++ (⟨#[32, 91]⟩ : ByteArray)) ++ vT c) ++ (⟨#[44, 32]⟩ : ByteArray)) ++ vT d) ++ (⟨#[93]⟩ : ByteArray)
def diffT (l : List ByteArray) (x y : Int) : ByteArray := if y = 0 then nmV l x else if x = 0 then (⟨#[45]⟩ : ByteArray) ++ nmV l y else (nmV l x ++ (⟨#[32, 45, 32]⟩ : ByteArray)) ++ nmV l y
def limT (word : ByteArray) (l : List ByteArray) (x y c : Int) : ByteArray := (((word ++ (⟨#[32]⟩ : ByteArray)) ++ diffT l x y) ++ (⟨#[32, 60, 61, 32]⟩ : ByteArray)) ++ vT c
theorem name_at {w : World} {a : Option Addr} {n c : Nat} {l : List ByteArray} (h : TT w a n c l) {x : Int} (h1 : 1 ≤ x) (h2 : x ≤ (n : Int)) : ∃ (i b off : Nat), x = (i : Int) + 1 ∧ i < n ∧ a = some ⟨b, off, none⟩ ∧ b < w.heap.size ∧ w.cell? ⟨b, off + i, none⟩ = some (.string (nmV l x)) := by
  obtain ⟨i, hi⟩ := Int.eq_ofNat_of_zero_le (show 0 ≤ x - 1 by omega)
  have hil : i < l.length := by rw [← h.len]; omega
  obtain ⟨b, off, ha, hb, hc⟩ := h.at_ hil
  refine ⟨i, b, off, by omega, by omega, ha, hb, ?_⟩
  rw [hc i hil]
  unfold nmV
  rw [show x.toNat - 1 = i by omega]
theorem name_sz {l : List ByteArray} (h : ∀ s ∈ l, s.size ≤ 32) (x : Int) : (nmV l x).size ≤ 32 := by
  unfold nmV
  by_cases hx : x.toNat - 1 < l.length
  · exact h _ (by simp [List.getD, hx])
  · rw [show l.getD (x.toNat - 1) e0 = e0 by simp [List.getD, hx]]; decide
theorem diff_sz {l : List ByteArray} (h : ∀ s ∈ l, s.size ≤ 32) (x y : Int) : (diffT l x y).size ≤ 67 := by
  have h1 := name_sz h x
  have h2 := name_sz h y
  unfold diffT
  split
  · omega
  · split
    · rw [ByteArray.size_append]; show 1 + _ ≤ _; omega
    · rw [ByteArray.size_append, ByteArray.size_append]; show _ + 3 + _ ≤ _; omega
set_option maxRecDepth 100000 in
set_option maxHeartbeats 2000000 in
theorem difference_any (a : Option Addr) (n cp : Nat) (l : List ByteArray) (hl : ∀ s ∈ l, s.size ≤ 32) (k x y c d : Int) (hx0 : 0 ≤ x) (hx : x ≤ (n : Int)) (hy0 : 0 ≤ y) (hy : y ≤ (n : Int)) (hxy : x ≠ y) (w : World) (h : TT w a n cp l) : Calls Tryz.prog 208 #[.slice a n cp, .agg #[.int .i64 k, .int .i64 x, .int .i64 y, .int .i64 c, .int .i64 d]] w (Gives (.string (diffT l x y)) w) := by
  have hB := Lib.hid (box_below w #[.int .i64 k, .int .i64 x, .int .i64 y, .int .i64 c, .int .i64 d] 73)
  have s1 := name_sz hl x
  have s2 := name_sz hl y
  have hn : (n : Int) ≤ 9223372036854775807 := by have := h.cap; have := h.max; unfold maxLen at this; omega
  by_cases h1 : y = 0
  · have hR : Hid (diffT l x y = nmV l x) := Lib.hid (by unfold diffT; rw [if_pos h1])
    obtain ⟨i, b, off, rfl, hi, rfl, hb, x0⟩ := name_at h (by omega) hx
    subst h1
    have hii : (i : Int) < (n : Int) := by omega
    generalize nmV l ((i : Int) + 1) = s at *
    generalize diffT l ((i : Int) + 1) 0 = R at *
    clear h hl
    go_enter Tryz.func208, Tryz.ntmps208
    go_wp2
    go_ret
    rw [hR.out]
    exact ⟨rfl, hB.out⟩
  · by_cases h2 : x = 0
    · have hR : Hid (diffT l x y = (⟨#[45]⟩ : ByteArray) ++ nmV l y) := Lib.hid (by unfold diffT; rw [if_neg h1, if_pos h2])
      obtain ⟨i, b, off, rfl, hi, rfl, hb, x0⟩ := name_at h (by omega) hy
      subst h2
      have hii : (i : Int) < (n : Int) := by omega
      have h1' : ¬ ((i : Int) + 1 = 0) := by omega
      generalize nmV l ((i : Int) + 1) = s at *
      generalize diffT l 0 ((i : Int) + 1) = R at *
      have z1 : ¬ 9223372036854775807 < 1 + s.size := by omega
      clear h hl
      go_enter Tryz.func208, Tryz.ntmps208
      go_wp2
      go_ret
      rw [hR.out]
      exact ⟨rfl, hB.out⟩
    · have hR : Hid (diffT l x y = (nmV l x ++ (⟨#[32, 45, 32]⟩ : ByteArray)) ++ nmV l y) := Lib.hid (by unfold diffT; rw [if_neg h1, if_neg h2])
      obtain ⟨i, b, off, rfl, hi, rfl, hb, x0⟩ := name_at h (by omega) hx
      obtain ⟨j, b2, off2, rfl, hj, e2, hb2, y0⟩ := name_at h (by omega) hy
      injection e2 with e2
      injection e2 with e3 e4
      subst e3 e4
      have hii : (i : Int) < (n : Int) := by omega
      have hji : (j : Int) < (n : Int) := by omega
      have h1' : ¬ ((j : Int) + 1 = 0) := by omega
      have h2' : ¬ ((i : Int) + 1 = 0) := by omega
      generalize nmV l ((i : Int) + 1) = s at *
      generalize nmV l ((j : Int) + 1) = u at *
      generalize diffT l ((i : Int) + 1) ((j : Int) + 1) = R at *
      have z1 : ¬ 9223372036854775807 < s.size + 3 := by omega
      have z2 : ¬ 9223372036854775807 < s.size + 3 + u.size := by omega
      have w1 : IntKind.i64.wrap (i : Int) = i := by rw [IntKind.wrap_i64]; omega
      have w2 : IntKind.i64.wrap (j : Int) = j := by rw [IntKind.wrap_i64]; omega
      have n1 : 0 ≤ (i : Int) := by omega
      have n2 : 0 ≤ (j : Int) := by omega
      clear h hl hxy
      go_enter Tryz.func208, Tryz.ntmps208
      go_wp2
      go_quiet (fail)
      go_wp2
      go_ret
      rw [hR.out]
      exact ⟨rfl, Below.drewN hB.out nq⟩
set_option maxRecDepth 100000 in
set_option maxHeartbeats 2000000 in
theorem showDiff_any (word : ByteArray) (hw : word.size ≤ 5) (a : Option Addr) (n cp : Nat) (l : List ByteArray) (hl : ∀ s ∈ l, s.size ≤ 32) (k x y c d : Int) (hx0 : 0 ≤ x) (hx : x ≤ (n : Int)) (hy0 : 0 ≤ y) (hy : y ≤ (n : Int)) (hxy : x ≠ y) (w : World) (ht : Tab w) (h : TT w a n cp l) : Calls Tryz.prog 203 #[.string word, .slice a n cp, .agg #[.int .i64 k, .int .i64 x, .int .i64 y, .int .i64 c, .int .i64 d]] w (Gives (.string (limT word l x y c)) w) := by
  have hR : Hid (limT word l x y c = ((word ++ (⟨#[32]⟩ : ByteArray)) ++ diffT l x y ++ (⟨#[32, 60, 61, 32]⟩ : ByteArray)) ++ vT c) := Lib.hid rfl
  have q1 := Lib.hid (fun W hW => difference_any a n cp l hl k x y c d hx0 hx hy0 hy hxy W hW)
  have q2 := Lib.hid (fun W (hW : Tab W) => show_any c W hW)
  have s1 := diff_sz hl x y
  have s2 := vT_size c
  have hv : Hid (strB (showV (clip c)) = vT c) := Lib.hid rfl
  rw [hv.out] at q2
  clear hv
  generalize limT word l x y c = R at *
  generalize diffT l x y = u at *
  generalize vT c = v at *
  have z0 : ¬ 9223372036854775807 < word.size + 1 := by omega
  have z1 : ¬ 9223372036854775807 < word.size + 1 + u.size := by omega
  have z2 : ¬ 9223372036854775807 < word.size + 1 + u.size + 4 := by omega
  have z3 : ¬ 9223372036854775807 < word.size + 1 + u.size + 4 + v.size := by omega
  obtain ⟨W1, hW1⟩ : ∃ W1, W1 = w.alloc (.cells #[.int .i64 k, .int .i64 x, .int .i64 y, .int .i64 c, .int .i64 d] 73) := ⟨_, rfl⟩
  have BL := Lib.hid (show Below w.heap.size w W1 by rw [hW1]; exact box_below _ _ _)
  have HZ : Hid (Holds W1 w.heap.size 73 #[.int .i64 k, .int .i64 x, .int .i64 y, .int .i64 c, .int .i64 d]) := Lib.hid (by rw [hW1]; exact Holds.new w _ _)
  have T := Lib.hid (ht.on BL.out)
  have V := Lib.hid (h.below BL.out)
  have hW1' := Lib.hid hW1
  clear h ht hl hW1 hxy hx0 hx hy0 hy
  go_enter Tryz.func203, Tryz.ntmps203
  go_wp2
  rw [← hW1'.out]
  clear hW1'
  have g0 : ∀ W, Below W1.heap.size W1 W → W.cell? ⟨w.heap.size, 0, none⟩ = some (.int .i64 k) := fun W hW => (HZ.out.below hW HZ.out.lt).cell 0
  have g1 : ∀ W, Below W1.heap.size W1 W → W.cell? ⟨w.heap.size, 1, none⟩ = some (.int .i64 x) := fun W hW => (HZ.out.below hW HZ.out.lt).cell 1
  have g2 : ∀ W, Below W1.heap.size W1 W → W.cell? ⟨w.heap.size, 2, none⟩ = some (.int .i64 y) := fun W hW => (HZ.out.below hW HZ.out.lt).cell 2
  have g3 : ∀ W, Below W1.heap.size W1 W → W.cell? ⟨w.heap.size, 3, none⟩ = some (.int .i64 c) := fun W hW => (HZ.out.below hW HZ.out.lt).cell 3
  have g4 : ∀ W, Below W1.heap.size W1 W → W.cell? ⟨w.heap.size, 4, none⟩ = some (.int .i64 d) := fun W hW => (HZ.out.below hW HZ.out.lt).cell 4
  refine wp_drawn_on (fun W => Below W1.heap.size W1 W) (by kernel_rfl) ((Below.refl _ _).drew) (fun hHeld => ?_)
  refine wT 0 (v := ?v1) rfl (by kernel_rfl) (fun _ _ _ h => h) ?h1 (by assumption) ?r1
  case h1 => (intro w hSw; (try dsimp only at hSw); go_simp; try with_reducible rfl)
  refine wT 1 (v := ?v2) rfl (by kernel_rfl) (fun _ _ _ h => h) ?h2 (by assumption) ?r2
  case h2 => (intro w hSw; (try dsimp only at hSw); go_simp; try with_reducible rfl)
  refine wT 2 (v := ?v3) rfl (by kernel_rfl) (fun _ _ _ h => h) ?h3 (by assumption) ?r3
  case h3 => (intro w hSw; (try dsimp only at hSw); go_simp; try with_reducible rfl)
  refine wT 3 (v := ?v4) rfl (by kernel_rfl) (fun _ _ _ h => h) ?h4 (by assumption) ?r4
  case h4 => (intro w hSw; (try dsimp only at hSw); go_simp; try with_reducible rfl)
  refine wT 7 (v := ?v5) rfl (by kernel_rfl) (fun _ _ _ h => h) ?h5 (by assumption) ?r5
  case h5 => (intro w hSw; (try dsimp only at hSw); go_simp; try with_reducible rfl)
  refine wT 8 (v := ?v6) rfl (by kernel_rfl) (fun _ _ _ h => h) ?h6 (by assumption) ?r6
  case h6 => (intro w hSw; (try dsimp only at hSw); go_simp; try with_reducible rfl)
  try simp only [Act.put, List.setIfInBounds_toArray, List.set_cons_zero, List.set_cons_succ]
  refine wpAnyH_ready (rs := [4]) (by kernel_rfl) (by simp) ?_
  refine AllReadyH.cons (o := ⟨_, _, _, _, _, _⟩) rfl (fun K hK => ?_) AllReadyH.nil
  go_simp
  with_reducible refine (q1.out _ (V.out.below hHeld)).mono ?_
  rintro e t4 ⟨rfl, b4⟩
  go_simp
  refine hK.out _ _ (hHeld.trans (b4.mono hHeld.size)) (fun hHeld => ?_)
  clear hK K
  refine wT 5 (v := ?v7) rfl (by kernel_rfl) (fun _ _ _ h => h) ?h7 (by assumption) ?r7
  case h7 => (intro w hSw; (try dsimp only at hSw); go_simp; try with_reducible rfl)
  refine wT 6 (v := ?v8) rfl (by kernel_rfl) (fun _ _ _ h => h) ?h8 (by assumption) ?r8
  case h8 => (intro w hSw; (try dsimp only at hSw); go_simp; try with_reducible rfl)
  try simp only [Act.put, List.setIfInBounds_toArray, List.set_cons_zero, List.set_cons_succ]
  refine wpAnyH_ready (rs := [9]) (by kernel_rfl) (by simp) ?_
  refine AllReadyH.cons (o := ⟨_, _, _, _, _, _⟩) rfl (fun K hK => ?_) AllReadyH.nil
  go_simp
  with_reducible refine (q2.out _ (T.out.on hHeld)).mono ?_
  rintro e t9 ⟨rfl, b9⟩
  go_simp
  refine hK.out _ _ (hHeld.trans (b9.mono hHeld.size)) (fun hHeld => ?_)
  clear hK K
  refine wT 10 (v := ?v9) rfl (by kernel_rfl) (fun _ _ _ h => h) ?h9 (by assumption) ?r9
  case h9 => (intro w hSw; (try dsimp only at hSw); go_simp; try with_reducible rfl)
  refine wT 11 (v := ?v10) rfl (by kernel_rfl) (fun _ _ _ h => h) ?h10 (by assumption) ?r10
  case h10 => (intro w hSw; (try dsimp only at hSw); go_simp; try with_reducible rfl)
  try simp only [Act.put, List.setIfInBounds_toArray, List.set_cons_zero, List.set_cons_succ]
  refine wpAnyH_done (by kernel_rfl) ?_ _
  go_wp2
  go_ret
  rw [hR.out]
  exact ⟨rfl, BL.out.trans (hHeld.mono BL.out.size)⟩
set_option maxRecDepth 100000 in
theorem showLimit_any (a : Option Addr) (n cp : Nat) (l : List ByteArray) (hl : ∀ s ∈ l, s.size ≤ 32) (k x y c d : Int) (hx0 : 0 ≤ x) (hx : x ≤ (n : Int)) (hy0 : 0 ≤ y) (hy : y ≤ (n : Int)) (hxy : x ≠ y) (w : World) (ht : Tab w) (h : TT w a n cp l) : Calls Tryz.prog 181 #[.slice a n cp, .agg #[.int .i64 k, .int .i64 x, .int .i64 y, .int .i64 c, .int .i64 d]] w (Gives (.string (limT ⟨#[108, 105, 109, 105, 116]⟩ l x y c)) w) := by
  obtain ⟨W1, hW1⟩ : ∃ W1, W1 = w.alloc (.cells #[.int .i64 k, .int .i64 x, .int .i64 y, .int .i64 c, .int .i64 d] 73) := ⟨_, rfl⟩
  have BL := Lib.hid (show Below w.heap.size w W1 by rw [hW1]; exact box_below _ _ _)
  have q := Lib.hid (showDiff_any ⟨#[108, 105, 109, 105, 116]⟩ (by decide) a n cp l hl k x y c d hx0 hx hy0 hy hxy W1 (ht.on BL.out) (h.below BL.out))
  have hW1' := Lib.hid hW1
  clear h ht hl hW1 hxy hx0 hx hy0 hy
  generalize limT ⟨#[108, 105, 109, 105, 116]⟩ l x y c = R at *
  go_enter Tryz.func181, Tryz.ntmps181
  go_wp2_with fail
  rw [← hW1'.out]
  refine q.out.mono ?_
  rintro e w1 ⟨rfl, b1⟩
  go_wp2
  go_ret
  exact ⟨rfl, BL.out.trans (b1.mono BL.out.size)⟩
set_option maxRecDepth 100000 in
theorem showCheck_any (a : Option Addr) (n cp : Nat) (l : List ByteArray) (hl : ∀ s ∈ l, s.size ≤ 32) (k x y c d : Int) (hx0 : 0 ≤ x) (hx : x ≤ (n : Int)) (hy0 : 0 ≤ y) (hy : y ≤ (n : Int)) (hxy : x ≠ y) (w : World) (ht : Tab w) (h : TT w a n cp l) : Calls Tryz.prog 182 #[.slice a n cp, .agg #[.int .i64 k, .int .i64 x, .int .i64 y, .int .i64 c, .int .i64 d]] w (Gives (.string (limT ⟨#[99, 104, 101, 99, 107]⟩ l x y c)) w) := by
  obtain ⟨W1, hW1⟩ : ∃ W1, W1 = w.alloc (.cells #[.int .i64 k, .int .i64 x, .int .i64 y, .int .i64 c, .int .i64 d] 73) := ⟨_, rfl⟩
  have BL := Lib.hid (show Below w.heap.size w W1 by rw [hW1]; exact box_below _ _ _)
  have q := Lib.hid (showDiff_any ⟨#[99, 104, 101, 99, 107]⟩ (by decide) a n cp l hl k x y c d hx0 hx hy0 hy hxy W1 (ht.on BL.out) (h.below BL.out))
  have hW1' := Lib.hid hW1
  clear h ht hl hW1 hxy hx0 hx hy0 hy
  generalize limT ⟨#[99, 104, 101, 99, 107]⟩ l x y c = R at *
  go_enter Tryz.func182, Tryz.ntmps182
  go_wp2_with fail
  rw [← hW1'.out]
  refine q.out.mono ?_
  rintro e w1 ⟨rfl, b1⟩
  go_wp2
  go_ret
  exact ⟨rfl, BL.out.trans (b1.mono BL.out.size)⟩
set_option maxRecDepth 100000 in
theorem showSkip_any (a : Option Addr) (n cp : Nat) (k x y c d : Int) (w : World) : Calls Tryz.prog 175 #[.slice a n cp, .agg #[.int .i64 k, .int .i64 x, .int .i64 y, .int .i64 c, .int .i64 d]] w (Gives (.string ⟨#[115, 107, 105, 112]⟩) w) := by
  have hB := Lib.hid (box_below w #[.int .i64 k, .int .i64 x, .int .i64 y, .int .i64 c, .int .i64 d] 73)
  go_enter Tryz.func175, Tryz.ntmps175
  go_wp2
  go_ret
  exact ⟨rfl, hB.out⟩
set_option maxRecDepth 100000 in
set_option maxHeartbeats 4000000 in
theorem showAny_any (a : Option Addr) (n cp : Nat) (l : List ByteArray) (hl : ∀ s ∈ l, s.size ≤ 32) (k x y c d : Int) (hx0 : 1 ≤ x) (hx : x ≤ (n : Int)) (w : World) (ht : Tab w) (h : TT w a n cp l) : Calls Tryz.prog 179 #[.slice a n cp, .agg #[.int .i64 k, .int .i64 x, .int .i64 y, .int .i64 c, .int .i64 d]] w (Gives (.string (anyT l x c d)) w) := by
  have hR : Hid (anyT l x c d = ((((((nmV l x ++ (⟨#[32, 58, 61, 32]⟩ : ByteArray)) ++ (⟨#[97, 110, 121]⟩ : ByteArray)) ++ (⟨#[32, 91]⟩ : ByteArray)) ++ vT c) ++ (⟨#[44, 32]⟩ : ByteArray)) ++ vT d) ++ (⟨#[93]⟩ : ByteArray)) := Lib.hid rfl
  have q1 := Lib.hid (fun W (hW : Tab W) => show_any c W hW)
  have q2 := Lib.hid (fun W (hW : Tab W) => show_any d W hW)
  have hv : Hid (strB (showV (clip c)) = vT c) := Lib.hid rfl
  have hv2 : Hid (strB (showV (clip d)) = vT d) := Lib.hid rfl
  rw [hv.out] at q1
  rw [hv2.out] at q2
  have s0 := name_sz hl x
  have s1 := vT_size c
  have s2 := vT_size d
  have hn : (n : Int) ≤ 9223372036854775807 := by have := h.cap; have := h.max; unfold maxLen at this; omega
  clear hv hv2
  obtain ⟨i, b, off, rfl, hi, rfl, -, -⟩ := name_at h hx0 hx
  obtain ⟨W1, hW1⟩ : ∃ W1, W1 = w.alloc (.cells #[.int .i64 k, .int .i64 ((i : Int) + 1), .int .i64 y, .int .i64 c, .int .i64 d] 73) := ⟨_, rfl⟩
  have BL := Lib.hid (show Below w.heap.size w W1 by rw [hW1]; exact box_below _ _ _)
  have HZ : Hid (Holds W1 w.heap.size 73 #[.int .i64 k, .int .i64 ((i : Int) + 1), .int .i64 y, .int .i64 c, .int .i64 d]) := Lib.hid (by rw [hW1]; exact Holds.new w _ _)
  have T := Lib.hid (ht.on BL.out)
  have V := Lib.hid (h.below BL.out)
  have hW1' := Lib.hid hW1
  obtain ⟨b', off', hbe, hbl, x0⟩ : ∃ b' off', (some ⟨b, off, none⟩ : Option Addr) = some ⟨b', off', none⟩ ∧ b' < W1.heap.size ∧ W1.cell? ⟨b', off' + i, none⟩ = some (.string (nmV l ((i : Int) + 1))) := by
    obtain ⟨i2, b2, o2, e1, e2, e3, e4, e5⟩ := name_at V.out hx0 hx
    obtain rfl : i = i2 := by omega
    exact ⟨b2, o2, e3, e4, e5⟩
  injection hbe with hbe
  injection hbe with hb1 hb2
  subst hb1 hb2
  have hii : (i : Int) < (n : Int) := by omega
  generalize nmV l ((i : Int) + 1) = s at *
  generalize anyT l ((i : Int) + 1) c d = R at *
  generalize vT c = v at *
  generalize vT d = u at *
  have z0 : ¬ 9223372036854775807 < s.size + 4 := by omega
  have z1 : ¬ 9223372036854775807 < s.size + 4 + 3 := by omega
  have z2 : ¬ 9223372036854775807 < s.size + 4 + 3 + 2 := by omega
  have z3 : ¬ 9223372036854775807 < s.size + 4 + 3 + 2 + v.size := by omega
  have z4 : ¬ 9223372036854775807 < s.size + 4 + 3 + 2 + v.size + 2 := by omega
  have z5 : ¬ 9223372036854775807 < s.size + 4 + 3 + 2 + v.size + 2 + u.size := by omega
  have z6 : ¬ 9223372036854775807 < s.size + 4 + 3 + 2 + v.size + 2 + u.size + 1 := by omega
  have w1 : IntKind.i64.wrap (i : Int) = i := by rw [IntKind.wrap_i64]; omega
  have n1 : 0 ≤ (i : Int) := by omega
  have gx : ∀ W, Below W1.heap.size W1 W → W.cell? ⟨b, off + i, none⟩ = some (.string s) := fun W hW => (hW.cell (p := ⟨b, off + i, none⟩) hbl).trans x0
  clear h ht hl hW1 hx0 hx x0
  go_enter Tryz.func179, Tryz.ntmps179
  go_wp2
  rw [← hW1'.out]
  clear hW1'
  have g0 : ∀ W, Below W1.heap.size W1 W → W.cell? ⟨w.heap.size, 0, none⟩ = some (.int .i64 k) := fun W hW => (HZ.out.below hW HZ.out.lt).cell 0
  have g1 : ∀ W, Below W1.heap.size W1 W → W.cell? ⟨w.heap.size, 1, none⟩ = some (.int .i64 ((i : Int) + 1)) := fun W hW => (HZ.out.below hW HZ.out.lt).cell 1
  have g2 : ∀ W, Below W1.heap.size W1 W → W.cell? ⟨w.heap.size, 2, none⟩ = some (.int .i64 y) := fun W hW => (HZ.out.below hW HZ.out.lt).cell 2
  have g3 : ∀ W, Below W1.heap.size W1 W → W.cell? ⟨w.heap.size, 3, none⟩ = some (.int .i64 c) := fun W hW => (HZ.out.below hW HZ.out.lt).cell 3
  have g4 : ∀ W, Below W1.heap.size W1 W → W.cell? ⟨w.heap.size, 4, none⟩ = some (.int .i64 d) := fun W hW => (HZ.out.below hW HZ.out.lt).cell 4
  refine wp_drawn_on (fun W => Below W1.heap.size W1 W) (by kernel_rfl) ((Below.refl _ _).drew) (fun hHeld => ?_)
  refine wT 0 (v := ?v11) rfl (by kernel_rfl) (fun _ _ _ h => h) ?h11 (by assumption) ?r11
  case h11 => (intro w hSw; (try dsimp only at hSw); go_simp; try with_reducible rfl)
  refine wT 1 (v := ?v12) rfl (by kernel_rfl) (fun _ _ _ h => h) ?h12 (by assumption) ?r12
  case h12 => (intro w hSw; (try dsimp only at hSw); go_simp; try with_reducible rfl)
  refine wT 2 (v := ?v13) rfl (by kernel_rfl) (fun _ _ _ h => h) ?h13 (by assumption) ?r13
  case h13 => (intro w hSw; (try dsimp only at hSw); go_simp; try with_reducible rfl)
  refine wT 3 (v := ?v14) rfl (by kernel_rfl) (fun _ _ _ h => h) ?h14 (by assumption) ?r14
  case h14 => (intro w hSw; (try dsimp only at hSw); go_simp; try with_reducible rfl)
  refine wT 4 (v := ?v15) rfl (by kernel_rfl) (fun _ _ _ h => h) ?h15 (by assumption) ?r15
  case h15 => (intro w hSw; (try dsimp only at hSw); go_simp; try with_reducible rfl)
  refine wT 5 (v := ?v16) rfl (by kernel_rfl) (fun _ _ _ h => h) ?h16 (by assumption) ?r16
  case h16 => (intro w hSw; (try dsimp only at hSw); go_simp; try with_reducible rfl)
  refine wT 6 (v := ?v17) rfl (by kernel_rfl) (fun _ _ _ h => h) ?h17 (by assumption) ?r17
  case h17 => (intro w hSw; (try dsimp only at hSw); go_simp; try with_reducible rfl)
  refine wT 7 (v := ?v18) rfl (by kernel_rfl) (fun _ _ _ h => h) ?h18 (by assumption) ?r18
  case h18 => (intro w hSw; (try dsimp only at hSw); go_simp; try with_reducible rfl)
  refine wT 8 (v := ?v19) rfl (by kernel_rfl) (fun _ _ _ h => h) ?h19 (by assumption) ?r19
  case h19 => (intro w hSw; (try dsimp only at hSw); go_simp; try with_reducible rfl)
  refine wT 9 (v := ?v20) rfl (by kernel_rfl) (fun _ _ _ h => h) ?h20 (by assumption) ?r20
  case h20 => (intro w hSw; (try dsimp only at hSw); go_simp; try with_reducible rfl)
  refine wT 10 (v := ?v21) rfl (by kernel_rfl) (fun _ _ _ h => h) ?h21 (by assumption) ?r21
  case h21 => (intro w hSw; (try dsimp only at hSw); go_simp; try with_reducible rfl)
  refine wT 14 (v := ?v22) rfl (by kernel_rfl) (fun _ _ _ h => h) ?h22 (by assumption) ?r22
  case h22 => (intro w hSw; (try dsimp only at hSw); go_simp; try with_reducible rfl)
  refine wT 15 (v := ?v23) rfl (by kernel_rfl) (fun _ _ _ h => h) ?h23 (by assumption) ?r23
  case h23 => (intro w hSw; (try dsimp only at hSw); go_simp; try with_reducible rfl)
  try simp only [Act.put, List.setIfInBounds_toArray, List.set_cons_zero, List.set_cons_succ]
  refine wpAnyH_ready (rs := [11]) (by kernel_rfl) (by simp) ?_
  refine AllReadyH.cons (o := ⟨_, _, _, _, _, _⟩) rfl (fun K hK => ?_) AllReadyH.nil
  go_simp
  with_reducible refine (q1.out _ (T.out.on hHeld)).mono ?_
  rintro e t11 ⟨rfl, b11⟩
  go_simp
  refine hK.out _ _ (hHeld.trans (b11.mono hHeld.size)) (fun hHeld => ?_)
  clear hK K
  refine wT 12 (v := ?v24) rfl (by kernel_rfl) (fun _ _ _ h => h) ?h24 (by assumption) ?r24
  case h24 => (intro w hSw; (try dsimp only at hSw); go_simp; try with_reducible rfl)
  refine wT 13 (v := ?v25) rfl (by kernel_rfl) (fun _ _ _ h => h) ?h25 (by assumption) ?r25
  case h25 => (intro w hSw; (try dsimp only at hSw); go_simp; try with_reducible rfl)
  try simp only [Act.put, List.setIfInBounds_toArray, List.set_cons_zero, List.set_cons_succ]
  refine wpAnyH_ready (rs := [16]) (by kernel_rfl) (by simp) ?_
  refine AllReadyH.cons (o := ⟨_, _, _, _, _, _⟩) rfl (fun K hK => ?_) AllReadyH.nil
  go_simp
  with_reducible refine (q2.out _ (T.out.on hHeld)).mono ?_
  rintro e t16 ⟨rfl, b16⟩
  go_simp
  refine hK.out _ _ (hHeld.trans (b16.mono hHeld.size)) (fun hHeld => ?_)
  clear hK K
  refine wT 17 (v := ?v26) rfl (by kernel_rfl) (fun _ _ _ h => h) ?h26 (by assumption) ?r26
  case h26 => (intro w hSw; (try dsimp only at hSw); go_simp; try with_reducible rfl)
  refine wT 18 (v := ?v27) rfl (by kernel_rfl) (fun _ _ _ h => h) ?h27 (by assumption) ?r27
  case h27 => (intro w hSw; (try dsimp only at hSw); go_simp; try with_reducible rfl)
  refine wT 19 (v := ?v28) rfl (by kernel_rfl) (fun _ _ _ h => h) ?h28 (by assumption) ?r28
  case h28 => (intro w hSw; (try dsimp only at hSw); go_simp; try with_reducible rfl)
  try simp only [Act.put, List.setIfInBounds_toArray, List.set_cons_zero, List.set_cons_succ]
  refine wpAnyH_done (by kernel_rfl) ?_ _
  go_wp2
  go_ret
  rw [hR.out]
  exact ⟨rfl, BL.out.trans (hHeld.mono BL.out.size)⟩
set_option maxRecDepth 100000 in
set_option maxHeartbeats 8000000 in
theorem showLet_any (a : Option Addr) (n cp : Nat) (l : List ByteArray) (hl : ∀ s ∈ l, s.size ≤ 32) (k x y c d : Int) (hx0 : 1 ≤ x) (hx : x ≤ (n : Int)) (hy0 : 0 ≤ y) (hy : y ≤ (n : Int)) (hc : -9223372036854775807 ≤ c ∧ c ≤ 9223372036854775807) (w : World) (ht : Tab w) (h : TT w a n cp l) : Calls Tryz.prog 177 #[.slice a n cp, .agg #[.int .i64 k, .int .i64 x, .int .i64 y, .int .i64 c, .int .i64 d]] w (Gives (.string (letT l x y c)) w) := by
  have q1 := Lib.hid (fun W (hW : Tab W) => show_any c W hW)
  have q2 := Lib.hid (fun W (hW : Tab W) => show_any (-c) W hW)
  have hv : Hid (strB (showV (clip c)) = vT c) := Lib.hid rfl
  have hv2 : Hid (strB (showV (clip (-c))) = vT (-c)) := Lib.hid rfl
  rw [hv.out] at q1
  rw [hv2.out] at q2
  have s0 := name_sz hl x
  have s1 := vT_size c
  have s2 := vT_size (-c)
  have s3 := name_sz hl y
  have hn : (n : Int) ≤ 9223372036854775807 := by have := h.cap; have := h.max; unfold maxLen at this; omega
  have hL : Hid (letT l x y c = if y = 0 then (nmV l x ++ (⟨#[32, 58, 61, 32]⟩ : ByteArray)) ++ vT c else if c = 0 then (nmV l x ++ (⟨#[32, 58, 61, 32]⟩ : ByteArray)) ++ nmV l y else if c < 0 then (((nmV l x ++ (⟨#[32, 58, 61, 32]⟩ : ByteArray)) ++ nmV l y) ++ (⟨#[32, 45, 32]⟩ : ByteArray)) ++ vT (-c) else (((nmV l x ++ (⟨#[32, 58, 61, 32]⟩ : ByteArray)) ++ nmV l y) ++ (⟨#[32, 43, 32]⟩ : ByteArray)) ++ vT c) := Lib.hid rfl
  clear hv hv2
  obtain ⟨i, b, off, rfl, hi, rfl, hbw, x0w⟩ := name_at h hx0 hx
  obtain ⟨W1, hW1⟩ : ∃ W1, W1 = w.alloc (.cells #[.int .i64 k, .int .i64 ((i : Int) + 1), .int .i64 y, .int .i64 c, .int .i64 d] 73) := ⟨_, rfl⟩
  have BL := Lib.hid (show Below w.heap.size w W1 by rw [hW1]; exact box_below _ _ _)
  have HZ : Hid (Holds W1 w.heap.size 73 #[.int .i64 k, .int .i64 ((i : Int) + 1), .int .i64 y, .int .i64 c, .int .i64 d]) := Lib.hid (by rw [hW1]; exact Holds.new w _ _)
  have T := Lib.hid (ht.on BL.out)
  have V := Lib.hid (h.below BL.out)
  have hW1' := Lib.hid hW1
  obtain ⟨hbl, x0⟩ : b < W1.heap.size ∧ W1.cell? ⟨b, off + i, none⟩ = some (.string (nmV l ((i : Int) + 1))) := by
    obtain ⟨i2, b2, o2, e1, e2, e3, e4, e5⟩ := name_at V.out hx0 hx
    obtain rfl : i = i2 := by omega
    injection e3 with e3
    injection e3 with e3 e6
    subst e3 e6
    exact ⟨e4, e5⟩
  have hii : (i : Int) < (n : Int) := by omega
  have w1 : IntKind.i64.wrap (i : Int) = i := by rw [IntKind.wrap_i64]; omega
  have n1 : 0 ≤ (i : Int) := by omega
  have w3 : IntKind.i64.wrap (-c) = -c := by rw [IntKind.wrap_i64]; omega
  have gx : ∀ W, Below W1.heap.size W1 W → W.cell? ⟨b, off + i, none⟩ = some (.string (nmV l ((i : Int) + 1))) := fun W hW => (hW.cell (p := ⟨b, off + i, none⟩) hbl).trans x0
  generalize nmV l ((i : Int) + 1) = s at *
  generalize vT c = v at *
  generalize vT (-c) = u at *
  have z0 : ¬ 9223372036854775807 < s.size + 4 := by omega
  have z1 : ¬ 9223372036854775807 < s.size + 4 + v.size := by omega
  by_cases hy1 : y = 0
  · have hR : Hid (letT l ((i : Int) + 1) y c = (s ++ (⟨#[32, 58, 61, 32]⟩ : ByteArray)) ++ v) := Lib.hid (by rw [hL.out, if_pos hy1])
    have q := Lib.hid (q1.out W1 T.out)
    subst hy1
    generalize letT l ((i : Int) + 1) 0 c = R at *
    have k0 := HZ.out.cell 0
    have k1 := HZ.out.cell 1
    have k2 := HZ.out.cell 2
    have k3 := HZ.out.cell 3
    clear hL h ht hl hW1 hx0 hx gx q1 q2
    go_enter Tryz.func177, Tryz.ntmps177
    go_wp2_with fail
    rw [← hW1'.out]
    refine q.out.mono ?_
    rintro e w2 ⟨rfl, b2⟩
    clear k0 k1 k2 k3 x0 x0w q
    go_wp2
    go_ret
    rw [hR.out]
    exact ⟨rfl, BL.out.trans (b2.mono BL.out.size)⟩
  obtain ⟨j, bj, oj, rfl, hj, ej, hbj, y0⟩ := name_at V.out (by omega) hy
  have y0w : w.cell? ⟨b, off + j, none⟩ = some (.string (nmV l ((j : Int) + 1))) := by
    obtain ⟨j2, b2, o2, e1, e2, e3, e4, e5⟩ := name_at h (by omega) hy
    obtain rfl : j = j2 := by omega
    injection e3 with e3
    injection e3 with e3 e6
    subst e3 e6
    exact e5
  injection ej with ej
  injection ej with ej1 ej2
  subst ej1 ej2
  have hji : (j : Int) < (n : Int) := by omega
  have w2 : IntKind.i64.wrap (j : Int) = j := by rw [IntKind.wrap_i64]; omega
  have n2 : 0 ≤ (j : Int) := by omega
  have hy1' : ¬ ((j : Int) + 1 = 0) := by omega
  have gy : ∀ W, Below W1.heap.size W1 W → W.cell? ⟨b, off + j, none⟩ = some (.string (nmV l ((j : Int) + 1))) := fun W hW => (hW.cell (p := ⟨b, off + j, none⟩) hbj).trans y0
  generalize nmV l ((j : Int) + 1) = r at *
  have z2 : ¬ 9223372036854775807 < s.size + 4 + r.size := by omega
  have z3 : ¬ 9223372036854775807 < s.size + 4 + r.size + 3 := by omega
  have z4 : ¬ 9223372036854775807 < s.size + 4 + r.size + 3 + v.size := by omega
  have z5 : ¬ 9223372036854775807 < s.size + 4 + r.size + 3 + u.size := by omega
  have hL2 : Hid (letT l ((i : Int) + 1) ((j : Int) + 1) c = if c = 0 then (s ++ (⟨#[32, 58, 61, 32]⟩ : ByteArray)) ++ r else if c < 0 then (((s ++ (⟨#[32, 58, 61, 32]⟩ : ByteArray)) ++ r) ++ (⟨#[32, 45, 32]⟩ : ByteArray)) ++ u else (((s ++ (⟨#[32, 58, 61, 32]⟩ : ByteArray)) ++ r) ++ (⟨#[32, 43, 32]⟩ : ByteArray)) ++ v) := Lib.hid (by rw [hL.out, if_neg hy1])
  clear hL hy1
  generalize letT l ((i : Int) + 1) ((j : Int) + 1) c = R at *
  by_cases hc0 : c = 0
  · have hR : Hid (R = (s ++ (⟨#[32, 58, 61, 32]⟩ : ByteArray)) ++ r) := Lib.hid (by rw [hL2.out, if_pos hc0])
    subst hc0
    have k0 := HZ.out.cell 0
    have k1 := HZ.out.cell 1
    have k2 := HZ.out.cell 2
    have k3 := HZ.out.cell 3
    clear hL2 h ht hl hW1 hx0 hx gx gy q1 q2
    go_enter Tryz.func177, Tryz.ntmps177
    go_wp2
    go_ret
    rw [hR.out, ← hW1'.out]
    exact ⟨rfl, BL.out⟩
  by_cases hcn : c < 0
  · have hR : Hid (R = (((s ++ (⟨#[32, 58, 61, 32]⟩ : ByteArray)) ++ r) ++ (⟨#[32, 45, 32]⟩ : ByteArray)) ++ u) := Lib.hid (by rw [hL2.out, if_neg hc0, if_pos hcn])
    have k0 := HZ.out.cell 0
    have k1 := HZ.out.cell 1
    have k2 := HZ.out.cell 2
    have k3 := HZ.out.cell 3
    clear hL2 h ht hl hW1 hx0 hx
    go_enter Tryz.func177, Tryz.ntmps177
    go_wp2
    rw [← hW1'.out]
    clear hW1' k0 k1 k2 k3 x0 y0 x0w y0w
    have g0 : ∀ W, Below W1.heap.size W1 W → W.cell? ⟨w.heap.size, 0, none⟩ = some (.int .i64 k) := fun W hW => (HZ.out.below hW HZ.out.lt).cell 0
    have g1 : ∀ W, Below W1.heap.size W1 W → W.cell? ⟨w.heap.size, 1, none⟩ = some (.int .i64 ((i : Int) + 1)) := fun W hW => (HZ.out.below hW HZ.out.lt).cell 1
    have g2 : ∀ W, Below W1.heap.size W1 W → W.cell? ⟨w.heap.size, 2, none⟩ = some (.int .i64 ((j : Int) + 1)) := fun W hW => (HZ.out.below hW HZ.out.lt).cell 2
    have g3 : ∀ W, Below W1.heap.size W1 W → W.cell? ⟨w.heap.size, 3, none⟩ = some (.int .i64 c) := fun W hW => (HZ.out.below hW HZ.out.lt).cell 3
    refine wp_drawn_on (fun W => Below W1.heap.size W1 W) (by kernel_rfl) ((Below.refl _ _).drew) (fun hHeld => ?_)
    refine wT 0 (v := ?v29) rfl (by kernel_rfl) (fun _ _ _ h => h) ?h29 (by assumption) ?r29
    case h29 => (intro w hSw; (try dsimp only at hSw); go_simp; try with_reducible rfl)
    refine wT 1 (v := ?v30) rfl (by kernel_rfl) (fun _ _ _ h => h) ?h30 (by assumption) ?r30
    case h30 => (intro w hSw; (try dsimp only at hSw); go_simp; try with_reducible rfl)
    refine wT 2 (v := ?v31) rfl (by kernel_rfl) (fun _ _ _ h => h) ?h31 (by assumption) ?r31
    case h31 => (intro w hSw; (try dsimp only at hSw); go_simp; try with_reducible rfl)
    refine wT 3 (v := ?v32) rfl (by kernel_rfl) (fun _ _ _ h => h) ?h32 (by assumption) ?r32
    case h32 => (intro w hSw; (try dsimp only at hSw); go_simp; try with_reducible rfl)
    refine wT 4 (v := ?v33) rfl (by kernel_rfl) (fun _ _ _ h => h) ?h33 (by assumption) ?r33
    case h33 => (intro w hSw; (try dsimp only at hSw); go_simp; try with_reducible rfl)
    refine wT 5 (v := ?v34) rfl (by kernel_rfl) (fun _ _ _ h => h) ?h34 (by assumption) ?r34
    case h34 => (intro w hSw; (try dsimp only at hSw); go_simp; try with_reducible rfl)
    refine wT 6 (v := ?v35) rfl (by kernel_rfl) (fun _ _ _ h => h) ?h35 (by assumption) ?r35
    case h35 => (intro w hSw; (try dsimp only at hSw); go_simp; try with_reducible rfl)
    refine wT 7 (v := ?v36) rfl (by kernel_rfl) (fun _ _ _ h => h) ?h36 (by assumption) ?r36
    case h36 => (intro w hSw; (try dsimp only at hSw); go_simp; try with_reducible rfl)
    refine wT 8 (v := ?v37) rfl (by kernel_rfl) (fun _ _ _ h => h) ?h37 (by assumption) ?r37
    case h37 => (intro w hSw; (try dsimp only at hSw); go_simp; try with_reducible rfl)
    refine wT 9 (v := ?v38) rfl (by kernel_rfl) (fun _ _ _ h => h) ?h38 (by assumption) ?r38
    case h38 => (intro w hSw; (try dsimp only at hSw); go_simp; try with_reducible rfl)
    refine wT 10 (v := ?v39) rfl (by kernel_rfl) (fun _ _ _ h => h) ?h39 (by assumption) ?r39
    case h39 => (intro w hSw; (try dsimp only at hSw); go_simp; try with_reducible rfl)
    refine wT 11 (v := ?v40) rfl (by kernel_rfl) (fun _ _ _ h => h) ?h40 (by assumption) ?r40
    case h40 => (intro w hSw; (try dsimp only at hSw); go_simp; try with_reducible rfl)
    try simp only [Act.put, List.setIfInBounds_toArray, List.set_cons_zero, List.set_cons_succ]
    refine wpAnyH_ready (rs := [12]) (by kernel_rfl) (by simp) ?_
    refine AllReadyH.cons (o := ⟨_, _, _, _, _, _⟩) rfl (fun K hK => ?_) AllReadyH.nil
    go_simp
    with_reducible refine (q2.out _ (T.out.on hHeld)).mono ?_
    rintro e t12 ⟨rfl, b12⟩
    go_simp
    refine hK.out _ _ (hHeld.trans (b12.mono hHeld.size)) (fun hHeld => ?_)
    clear hK K
    refine wT 13 (v := ?v41) rfl (by kernel_rfl) (fun _ _ _ h => h) ?h41 (by assumption) ?r41
    case h41 => (intro w hSw; (try dsimp only at hSw); go_simp; try with_reducible rfl)
    refine wT 14 (v := ?v42) rfl (by kernel_rfl) (fun _ _ _ h => h) ?h42 (by assumption) ?r42
    case h42 => (intro w hSw; (try dsimp only at hSw); go_simp; try with_reducible rfl)
    try simp only [Act.put, List.setIfInBounds_toArray, List.set_cons_zero, List.set_cons_succ]
    refine wpAnyH_done (by kernel_rfl) ?_ _
    go_wp2
    go_ret
    rw [hR.out]
    exact ⟨rfl, BL.out.trans (hHeld.mono BL.out.size)⟩
  have hR : Hid (R = (((s ++ (⟨#[32, 58, 61, 32]⟩ : ByteArray)) ++ r) ++ (⟨#[32, 43, 32]⟩ : ByteArray)) ++ v) := Lib.hid (by rw [hL2.out, if_neg hc0, if_neg hcn])
  have k0 := HZ.out.cell 0
  have k1 := HZ.out.cell 1
  have k2 := HZ.out.cell 2
  have k3 := HZ.out.cell 3
  clear hL2 h ht hl hW1 hx0 hx
  go_enter Tryz.func177, Tryz.ntmps177
  go_wp2
  rw [← hW1'.out]
  clear hW1' k0 k1 k2 k3 x0 y0 x0w y0w
  have g0 : ∀ W, Below W1.heap.size W1 W → W.cell? ⟨w.heap.size, 0, none⟩ = some (.int .i64 k) := fun W hW => (HZ.out.below hW HZ.out.lt).cell 0
  have g1 : ∀ W, Below W1.heap.size W1 W → W.cell? ⟨w.heap.size, 1, none⟩ = some (.int .i64 ((i : Int) + 1)) := fun W hW => (HZ.out.below hW HZ.out.lt).cell 1
  have g2 : ∀ W, Below W1.heap.size W1 W → W.cell? ⟨w.heap.size, 2, none⟩ = some (.int .i64 ((j : Int) + 1)) := fun W hW => (HZ.out.below hW HZ.out.lt).cell 2
  have g3 : ∀ W, Below W1.heap.size W1 W → W.cell? ⟨w.heap.size, 3, none⟩ = some (.int .i64 c) := fun W hW => (HZ.out.below hW HZ.out.lt).cell 3
  refine wp_drawn_on (fun W => Below W1.heap.size W1 W) (by kernel_rfl) ((Below.refl _ _).drew) (fun hHeld => ?_)
  refine wT 0 (v := ?v43) rfl (by kernel_rfl) (fun _ _ _ h => h) ?h43 (by assumption) ?r43
  case h43 => (intro w hSw; (try dsimp only at hSw); go_simp; try with_reducible rfl)
  refine wT 1 (v := ?v44) rfl (by kernel_rfl) (fun _ _ _ h => h) ?h44 (by assumption) ?r44
  case h44 => (intro w hSw; (try dsimp only at hSw); go_simp; try with_reducible rfl)
  refine wT 2 (v := ?v45) rfl (by kernel_rfl) (fun _ _ _ h => h) ?h45 (by assumption) ?r45
  case h45 => (intro w hSw; (try dsimp only at hSw); go_simp; try with_reducible rfl)
  refine wT 3 (v := ?v46) rfl (by kernel_rfl) (fun _ _ _ h => h) ?h46 (by assumption) ?r46
  case h46 => (intro w hSw; (try dsimp only at hSw); go_simp; try with_reducible rfl)
  refine wT 4 (v := ?v47) rfl (by kernel_rfl) (fun _ _ _ h => h) ?h47 (by assumption) ?r47
  case h47 => (intro w hSw; (try dsimp only at hSw); go_simp; try with_reducible rfl)
  refine wT 5 (v := ?v48) rfl (by kernel_rfl) (fun _ _ _ h => h) ?h48 (by assumption) ?r48
  case h48 => (intro w hSw; (try dsimp only at hSw); go_simp; try with_reducible rfl)
  refine wT 6 (v := ?v49) rfl (by kernel_rfl) (fun _ _ _ h => h) ?h49 (by assumption) ?r49
  case h49 => (intro w hSw; (try dsimp only at hSw); go_simp; try with_reducible rfl)
  refine wT 7 (v := ?v50) rfl (by kernel_rfl) (fun _ _ _ h => h) ?h50 (by assumption) ?r50
  case h50 => (intro w hSw; (try dsimp only at hSw); go_simp; try with_reducible rfl)
  refine wT 8 (v := ?v51) rfl (by kernel_rfl) (fun _ _ _ h => h) ?h51 (by assumption) ?r51
  case h51 => (intro w hSw; (try dsimp only at hSw); go_simp; try with_reducible rfl)
  refine wT 9 (v := ?v52) rfl (by kernel_rfl) (fun _ _ _ h => h) ?h52 (by assumption) ?r52
  case h52 => (intro w hSw; (try dsimp only at hSw); go_simp; try with_reducible rfl)
  refine wT 10 (v := ?v53) rfl (by kernel_rfl) (fun _ _ _ h => h) ?h53 (by assumption) ?r53
  case h53 => (intro w hSw; (try dsimp only at hSw); go_simp; try with_reducible rfl)
  try simp only [Act.put, List.setIfInBounds_toArray, List.set_cons_zero, List.set_cons_succ]
  refine wpAnyH_ready (rs := [11]) (by kernel_rfl) (by simp) ?_
  refine AllReadyH.cons (o := ⟨_, _, _, _, _, _⟩) rfl (fun K hK => ?_) AllReadyH.nil
  go_simp
  with_reducible refine (q1.out _ (T.out.on hHeld)).mono ?_
  rintro e t11 ⟨rfl, b11⟩
  go_simp
  refine hK.out _ _ (hHeld.trans (b11.mono hHeld.size)) (fun hHeld => ?_)
  clear hK K
  refine wT 12 (v := ?v54) rfl (by kernel_rfl) (fun _ _ _ h => h) ?h54 (by assumption) ?r54
  case h54 => (intro w hSw; (try dsimp only at hSw); go_simp; try with_reducible rfl)
  refine wT 13 (v := ?v55) rfl (by kernel_rfl) (fun _ _ _ h => h) ?h55 (by assumption) ?r55
  case h55 => (intro w hSw; (try dsimp only at hSw); go_simp; try with_reducible rfl)
  try simp only [Act.put, List.setIfInBounds_toArray, List.set_cons_zero, List.set_cons_succ]
  refine wpAnyH_done (by kernel_rfl) ?_ _
  go_wp2
  go_ret
  rw [hR.out]
  exact ⟨rfl, BL.out.trans (hHeld.mono BL.out.size)⟩
end Go.Proofs.YtimgocfkogebmaaGreatDoor
