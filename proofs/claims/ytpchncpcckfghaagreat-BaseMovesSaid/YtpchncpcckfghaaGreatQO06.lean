/-
  Words and walks under the law's proof.
-/
import Derived.Ground.SlsfProg
import Derived.Shelf.SlSortCmp.NoneTotal
import Derived.Test.YtpchncpcckfghaaGreatProg
import Derived.IntWalk
import Derived.ArgAppend
import Derived.Lib.FrozenHead
import Derived.Test.YtpchncpcckfghaaGreatRows
import Derived.Maps.OwnSet
import Derived.Test.YtpchncpcckfghaaGreatQO01
import Derived.Test.YtpchncpcckfghaaGreatQO02
import Derived.Test.YtpchncpcckfghaaGreatQO03
import Derived.Test.YtpchncpcckfghaaGreatQO04
import Derived.Test.YtpchncpcckfghaaGreatQO05
namespace Go.Proofs
open Go.Shelf
def Tryz.laysSlF06_f74_ren : Go.Shelf.Ren := ⟨fun | 6 => 74 | 15 => 63 | 14 => 103 | 28 => 89 | 29 => 90 | 20 => 121 | 21 => 122 | 22 => 123 | 23 => 124 | 24 => 125 | 25 => 126 | 26 => 127 | 27 => 128 | 46 => 140 | 47 => 107 | 48 => 108 | 49 => 141 | 50 => 142 | 57 => 146 | n => n, fun | 22 => 103 | 24 => 3 | 25 => 106 | 3 => 3 | 39 => 90 | 0 => 0 | 53 => 117 | 55 => 36 | 4 => 4 | 46 => 111 | 45 => 110 | 50 => 69 | 5 => 5 | 9 => 9 | 66 => 131 | 70 => 135 | 76 => 160 | 77 => 161 | n => n, fun | n => n⟩
theorem Tryz.laysSlF06_f74 : Go.Proofs.SlLaysF0.n6 Tryz.prog Tryz.laysSlF06_f74_ren := {
  mixed := by kernel_rfl
  f6 := ⟨Tryz.f74.name, by decide, Tryz.func74.trans (congrArg some (by kernel_rfl))⟩
  f14 := ⟨Tryz.f103.name, by decide, Tryz.func103.trans (congrArg some (by kernel_rfl))⟩
  f15 := Tryz.func63.trans (congrArg some (by kernel_rfl))
  f20 := ⟨Tryz.f121.name, by decide, Tryz.func121.trans (congrArg some (by kernel_rfl))⟩
  f21 := ⟨Tryz.f122.name, by decide, Tryz.func122.trans (congrArg some (by kernel_rfl))⟩
  f22 := ⟨Tryz.f123.name, by decide, Tryz.func123.trans (congrArg some (by kernel_rfl))⟩
  f23 := ⟨Tryz.f124.name, by decide, Tryz.func124.trans (congrArg some (by kernel_rfl))⟩
  f24 := ⟨Tryz.f125.name, by decide, Tryz.func125.trans (congrArg some (by kernel_rfl))⟩
  f25 := ⟨Tryz.f126.name, by decide, Tryz.func126.trans (congrArg some (by kernel_rfl))⟩
  f26 := ⟨Tryz.f127.name, by decide, Tryz.func127.trans (congrArg some (by kernel_rfl))⟩
  f27 := ⟨Tryz.f128.name, by decide, Tryz.func128.trans (congrArg some (by kernel_rfl))⟩
  f28 := Tryz.func89.trans (congrArg some (by kernel_rfl))
  f29 := Tryz.func90.trans (congrArg some (by kernel_rfl))
  f46 := ⟨Tryz.f140.name, by decide, Tryz.func140.trans (congrArg some (by kernel_rfl))⟩
  f47 := Tryz.func107.trans (congrArg some (by kernel_rfl))
  f48 := Tryz.func108.trans (congrArg some (by kernel_rfl))
  f49 := ⟨Tryz.f141.name, by decide, Tryz.func141.trans (congrArg some (by kernel_rfl))⟩
  f50 := ⟨Tryz.f142.name, by decide, Tryz.func142.trans (congrArg some (by kernel_rfl))⟩
  f57 := ⟨Tryz.f146.name, by decide, Tryz.func146.trans (congrArg some (by kernel_rfl))⟩
  t0 := Tryz.underlying0
  a0 := Tryz.isAgg0
  z0 := Tryz.sizeOf0
  v0 := Tryz.zeroValue0
  t3 := Tryz.underlying3
  a3 := Tryz.isAgg3
  z3 := Tryz.sizeOf3
  v3 := Tryz.zeroValue3
  t4 := Tryz.underlying4
  a4 := Tryz.isAgg4
  z4 := Tryz.sizeOf4
  v4 := Tryz.zeroValue4
  t5 := Tryz.underlying5
  a5 := Tryz.isAgg5
  z5 := Tryz.sizeOf5
  v5 := Tryz.zeroValue5
  t9 := Tryz.underlying9
  a9 := Tryz.isAgg9
  z9 := Tryz.sizeOf9
  v9 := Tryz.zeroValue9
  t22 := Tryz.underlying103
  a22 := Tryz.isAgg103
  z22 := Tryz.sizeOf103
  v22 := Tryz.zeroValue103
  t25 := Tryz.underlying106
  a25 := Tryz.isAgg106
  z25 := Tryz.sizeOf106
  v25 := Tryz.zeroValue106
  t39 := Tryz.underlying90
  a39 := Tryz.isAgg90
  z39 := Tryz.sizeOf90
  v39 := Tryz.zeroValue90
  t45 := Tryz.underlying110
  a45 := Tryz.isAgg110
  z45 := Tryz.sizeOf110
  v45 := Tryz.zeroValue110
  t46 := Tryz.underlying111
  a46 := Tryz.isAgg111
  z46 := Tryz.sizeOf111
  v46 := Tryz.zeroValue111
  t50 := Tryz.underlying69
  a50 := Tryz.isAgg69
  z50 := Tryz.sizeOf69
  v50 := Tryz.zeroValue69
  t53 := Tryz.underlying117
  a53 := Tryz.isAgg117
  z53 := Tryz.sizeOf117
  v53 := Tryz.zeroValue117
  t55 := Tryz.underlying36
  a55 := Tryz.isAgg36
  z55 := Tryz.sizeOf36
  v55 := Tryz.zeroValue36
  t66 := Tryz.underlying131
  a66 := Tryz.isAgg131
  z66 := Tryz.sizeOf131
  v66 := Tryz.zeroValue131
  t70 := Tryz.underlying135
  a70 := Tryz.isAgg135
  z70 := Tryz.sizeOf135
  v70 := Tryz.zeroValue135
  t76 := Tryz.underlying160
  a76 := Tryz.isAgg160
  z76 := Tryz.sizeOf160
  v76 := Tryz.zeroValue160
  t77 := Tryz.underlying161
  a77 := Tryz.isAgg161
  z77 := Tryz.sizeOf161
  v77 := Tryz.zeroValue161 }
open Go.RowKit Go.Lib Go.Sort in
theorem Tryz.slices_SortFunc_none {α : Type} [Inhabited α] (p : Option Addr) (cap : Nat) (fv : Value) (w : World) :
    Calls Tryz.prog 74 #[.slice p 0 cap, fv] w fun e w' => e = .returned (.tuple #[]) ∧ w' = w := AnyF.slices_SortFunc_none Tryz.laysSlF06_f74 p cap fv w
def Tryz.laysSlF6_f74_ren : Go.Shelf.Ren := ⟨fun | 6 => 74 | 15 => 63 | 14 => 103 | 28 => 89 | 29 => 90 | 20 => 121 | 21 => 122 | 22 => 123 | 23 => 124 | 24 => 125 | 25 => 126 | 26 => 127 | 27 => 128 | 46 => 140 | 47 => 107 | 48 => 108 | 49 => 141 | 50 => 142 | 57 => 146 | n => n, fun | 22 => 103 | 24 => 3 | 25 => 106 | 3 => 3 | 39 => 90 | 0 => 0 | 53 => 117 | 55 => 36 | 4 => 4 | 46 => 111 | 45 => 110 | 50 => 69 | 5 => 5 | 9 => 9 | 66 => 131 | 70 => 135 | 76 => 160 | 77 => 161 | n => n, fun | n => n⟩
theorem Tryz.laysSlF6_f74 : Go.Proofs.SlLaysF.n6 Tryz.prog Tryz.laysSlF6_f74_ren := {
  mixed := by kernel_rfl
  f6 := ⟨Tryz.f74.name, by decide, Tryz.func74.trans (congrArg some (by kernel_rfl))⟩
  f14 := ⟨Tryz.f103.name, by decide, Tryz.func103.trans (congrArg some (by kernel_rfl))⟩
  f15 := Tryz.func63.trans (congrArg some (by kernel_rfl))
  f20 := ⟨Tryz.f121.name, by decide, Tryz.func121.trans (congrArg some (by kernel_rfl))⟩
  f21 := ⟨Tryz.f122.name, by decide, Tryz.func122.trans (congrArg some (by kernel_rfl))⟩
  f22 := ⟨Tryz.f123.name, by decide, Tryz.func123.trans (congrArg some (by kernel_rfl))⟩
  f23 := ⟨Tryz.f124.name, by decide, Tryz.func124.trans (congrArg some (by kernel_rfl))⟩
  f24 := ⟨Tryz.f125.name, by decide, Tryz.func125.trans (congrArg some (by kernel_rfl))⟩
  f25 := ⟨Tryz.f126.name, by decide, Tryz.func126.trans (congrArg some (by kernel_rfl))⟩
  f26 := ⟨Tryz.f127.name, by decide, Tryz.func127.trans (congrArg some (by kernel_rfl))⟩
  f27 := ⟨Tryz.f128.name, by decide, Tryz.func128.trans (congrArg some (by kernel_rfl))⟩
  f28 := Tryz.func89.trans (congrArg some (by kernel_rfl))
  f29 := Tryz.func90.trans (congrArg some (by kernel_rfl))
  f46 := ⟨Tryz.f140.name, by decide, Tryz.func140.trans (congrArg some (by kernel_rfl))⟩
  f47 := Tryz.func107.trans (congrArg some (by kernel_rfl))
  f48 := Tryz.func108.trans (congrArg some (by kernel_rfl))
  f49 := ⟨Tryz.f141.name, by decide, Tryz.func141.trans (congrArg some (by kernel_rfl))⟩
  f50 := ⟨Tryz.f142.name, by decide, Tryz.func142.trans (congrArg some (by kernel_rfl))⟩
  f57 := ⟨Tryz.f146.name, by decide, Tryz.func146.trans (congrArg some (by kernel_rfl))⟩
  t0 := Tryz.underlying0
  a0 := Tryz.isAgg0
  z0 := Tryz.sizeOf0
  v0 := Tryz.zeroValue0
  t3 := Tryz.underlying3
  a3 := Tryz.isAgg3
  z3 := Tryz.sizeOf3
  v3 := Tryz.zeroValue3
  t4 := Tryz.underlying4
  a4 := Tryz.isAgg4
  z4 := Tryz.sizeOf4
  v4 := Tryz.zeroValue4
  t5 := Tryz.underlying5
  a5 := Tryz.isAgg5
  z5 := Tryz.sizeOf5
  v5 := Tryz.zeroValue5
  t9 := Tryz.underlying9
  a9 := Tryz.isAgg9
  z9 := Tryz.sizeOf9
  v9 := Tryz.zeroValue9
  t22 := Tryz.underlying103
  a22 := Tryz.isAgg103
  z22 := Tryz.sizeOf103
  v22 := Tryz.zeroValue103
  a24 := Tryz.isAgg3
  z24 := Tryz.sizeOf3
  t25 := Tryz.underlying106
  a25 := Tryz.isAgg106
  z25 := Tryz.sizeOf106
  v25 := Tryz.zeroValue106
  t39 := Tryz.underlying90
  a39 := Tryz.isAgg90
  z39 := Tryz.sizeOf90
  v39 := Tryz.zeroValue90
  t45 := Tryz.underlying110
  a45 := Tryz.isAgg110
  z45 := Tryz.sizeOf110
  v45 := Tryz.zeroValue110
  t46 := Tryz.underlying111
  a46 := Tryz.isAgg111
  z46 := Tryz.sizeOf111
  v46 := Tryz.zeroValue111
  t50 := Tryz.underlying69
  a50 := Tryz.isAgg69
  z50 := Tryz.sizeOf69
  v50 := Tryz.zeroValue69
  t53 := Tryz.underlying117
  a53 := Tryz.isAgg117
  z53 := Tryz.sizeOf117
  v53 := Tryz.zeroValue117
  t55 := Tryz.underlying36
  a55 := Tryz.isAgg36
  z55 := Tryz.sizeOf36
  v55 := Tryz.zeroValue36
  t66 := Tryz.underlying131
  a66 := Tryz.isAgg131
  z66 := Tryz.sizeOf131
  v66 := Tryz.zeroValue131
  t70 := Tryz.underlying135
  a70 := Tryz.isAgg135
  z70 := Tryz.sizeOf135
  v70 := Tryz.zeroValue135
  t76 := Tryz.underlying160
  a76 := Tryz.isAgg160
  z76 := Tryz.sizeOf160
  v76 := Tryz.zeroValue160
  t77 := Tryz.underlying161
  a77 := Tryz.isAgg161
  z77 := Tryz.sizeOf161
  v77 := Tryz.zeroValue161 }
open Go.RowKit Go.Lib Go.Sort in
theorem Tryz.slices_SortFunc_total {α : Type} [Inhabited α] (enc : α → Value) (h1 : OneCell enc) (cf : α → α → Int) (hO : SWO (ltOf cf)) (g : Nat) (cb : Array Value) (blk off cap : Nat) (d : Array α) (w : World) (eg : ∀ args w, (callFunc g args).run Tryz.prog w = .ok (.enter g args) w) (hcmp : CmpLays1 Tryz.prog g cb enc cf blk off d.size w) (hH : Holds enc w blk off d) (hblk : blk < w.heap.size) (hsz : d.size < 4611686018427387904) (hT : ∀ x y, (ltOf cf) x y = false → (ltOf cf) y x = false → x = y) :
    Calls Tryz.prog 74 #[.slice (some ⟨blk, off, none⟩) d.size cap, .func (.func g) #[] cb] w fun e w' =>
      e = .returned (.tuple #[]) ∧ ∃ n os, w' = sortWorld enc w blk off n (d.toList.mergeSort fun x y => !(ltOf cf) y x).toArray os := Any.slices_SortFunc_total Tryz.laysSlF6_f74 enc h1 cf hO g cb blk off cap d w eg hcmp hH hblk hsz hT
end Go.Proofs
namespace Go.Proofs.YtpchncpcckfghaaGreat
open Go.RowKit
set_option linter.unusedVariables false
set_option linter.unusedSimpArgs false
theorem for2_any (x y : Int) (g : Nat) (w : World) (c0 : w.cell? ⟨g, 0, none⟩ = some (.int .i64 x)) (c1 : w.cell? ⟨g, 1, none⟩ = some (.int .i64 y)) :
    Calls Tryz.prog 76 #[.slice (some ⟨g, 0, none⟩) 2 2] w (Tells (.int .i64 (thenC x y)) w) := by
  by_cases hx : x = 0
  · subst hx
    have e : thenC 0 y = y := rfl
    rw [e]
    by_cases hy : y = 0
    · subst hy
      go_enter Tryz.func76, Tryz.ntmps76
      go_wp2
      refine wp_loop_rounds 3 ?_
      rw [rounds_succ]
      go_wp2
      rw [rounds_succ]
      go_wp2
      rw [rounds_succ]
      go_wp2
      go_ret
      exact ⟨rfl, rfl⟩
    · have hy' : (y == 0) = false := by rw [beq_eq_false_iff_ne]; exact hy
      go_enter Tryz.func76, Tryz.ntmps76
      go_wp2
      refine wp_loop_rounds 3 ?_
      rw [rounds_succ]
      go_wp2
      rw [rounds_succ]
      go_wp2
      go_ret
      exact ⟨rfl, rfl⟩
  · have e : thenC x y = x := if_neg hx
    have hx' : (x == 0) = false := by rw [beq_eq_false_iff_ne]; exact hx
    rw [e]
    clear e hx
    go_enter Tryz.func76, Tryz.ntmps76
    go_wp2
    refine wp_loop_rounds 3 ?_
    rw [rounds_succ]
    go_wp2
    go_ret
    exact ⟨rfl, rfl⟩
set_option maxRecDepth 100000 in
set_option maxHeartbeats 4000000 in
theorem fcl_any (l : List AlD) (a : Option Addr) (n c Bl : Nat) (u0 : World) (h : RO alC u0 a n c l) (hbox : u0.cell? ⟨Bl, 0, none⟩ = some (.slice a n c)) (hBl : Bl < u0.heap.size) (i j : Nat) (hi : i < n) (hj : j < n) :
    Calls Tryz.prog 75 #[.int .i64 i, .int .i64 j, .pointer (some ⟨Bl, 0, none⟩)] u0 (GivesG (.int .i64 (thenC (cmpA (l.getD i al0) (l.getD j al0)) (cmpZ (i : Int) (j : Int)))) u0) := by
  have q1 := Lib.hid (fun W => acmpg_any (l.getD i al0) (l.getD j al0) W)
  have q2 := Lib.hid (fun W => icompare_any (i : Int) (j : Int) W)
  have q3 := Lib.hid (fun (g : Nat) (W : World) c0 c1 => for2_any (cmpA (l.getD i al0) (l.getD j al0)) (cmpZ (i : Int) (j : Int)) g W c0 c1)
  have yb : ∀ W, Grows u0 W → W.cell? ⟨Bl, 0, none⟩ = some (.slice a n c) := fun W hW => (hW.below.cell (p := ⟨Bl, 0, none⟩) hBl).trans hbox
  have hii : (i : Int) < (n : Int) := by omega
  have hjj : (j : Int) < (n : Int) := by omega
  have hm : (n : Int) ≤ 9223372036854775807 := by have := h.max'; omega
  obtain ⟨b, off, rfl, hB, x0, x1, x2, x3, x4, x5⟩ := al_at h hi
  obtain ⟨b', off', hbb, -, z0, z1, z2, z3, z4, z5⟩ := al_at h hj
  injection hbb with hbb
  injection hbb with hb1 hb2
  subst hb1 hb2
  have hRO := Lib.hid h
  clear h
  have p0 : ∀ W, Grows u0 W → W.cell? ⟨b, off + i * 6, none⟩ = some (.int .i64 (l.getD i al0).kind) := fun W hW => (hW.below.cell (p := ⟨b, off + i * 6, none⟩) hB).trans x0
  have p1 : ∀ W, Grows u0 W → W.cell? ⟨b, off + i * 6 + 1, none⟩ = some (.int .i64 (l.getD i al0).sev) := fun W hW => (hW.below.cell (p := ⟨b, off + i * 6 + 1, none⟩) hB).trans x1
  have p2 : ∀ W, Grows u0 W → W.cell? ⟨b, off + i * 6 + 2, none⟩ = some (.string (l.getD i al0).fn) := fun W hW => (hW.below.cell (p := ⟨b, off + i * 6 + 2, none⟩) hB).trans x2
  have p3 : ∀ W, Grows u0 W → W.cell? ⟨b, off + i * 6 + 3, none⟩ = some (.string (l.getD i al0).file) := fun W hW => (hW.below.cell (p := ⟨b, off + i * 6 + 3, none⟩) hB).trans x3
  have p4 : ∀ W, Grows u0 W → W.cell? ⟨b, off + i * 6 + 4, none⟩ = some (.int .i64 (l.getD i al0).line) := fun W hW => (hW.below.cell (p := ⟨b, off + i * 6 + 4, none⟩) hB).trans x4
  have p5 : ∀ W, Grows u0 W → W.cell? ⟨b, off + i * 6 + 5, none⟩ = some (.string (l.getD i al0).expr) := fun W hW => (hW.below.cell (p := ⟨b, off + i * 6 + 5, none⟩) hB).trans x5
  have r0 : ∀ W, Grows u0 W → W.cell? ⟨b, off + j * 6, none⟩ = some (.int .i64 (l.getD j al0).kind) := fun W hW => (hW.below.cell (p := ⟨b, off + j * 6, none⟩) hB).trans z0
  have r1 : ∀ W, Grows u0 W → W.cell? ⟨b, off + j * 6 + 1, none⟩ = some (.int .i64 (l.getD j al0).sev) := fun W hW => (hW.below.cell (p := ⟨b, off + j * 6 + 1, none⟩) hB).trans z1
  have r2 : ∀ W, Grows u0 W → W.cell? ⟨b, off + j * 6 + 2, none⟩ = some (.string (l.getD j al0).fn) := fun W hW => (hW.below.cell (p := ⟨b, off + j * 6 + 2, none⟩) hB).trans z2
  have r3 : ∀ W, Grows u0 W → W.cell? ⟨b, off + j * 6 + 3, none⟩ = some (.string (l.getD j al0).file) := fun W hW => (hW.below.cell (p := ⟨b, off + j * 6 + 3, none⟩) hB).trans z3
  have r4 : ∀ W, Grows u0 W → W.cell? ⟨b, off + j * 6 + 4, none⟩ = some (.int .i64 (l.getD j al0).line) := fun W hW => (hW.below.cell (p := ⟨b, off + j * 6 + 4, none⟩) hB).trans z4
  have r5 : ∀ W, Grows u0 W → W.cell? ⟨b, off + j * 6 + 5, none⟩ = some (.string (l.getD j al0).expr) := fun W hW => (hW.below.cell (p := ⟨b, off + j * 6 + 5, none⟩) hB).trans z5
  clear x0 x1 x2 x3 x4 x5 z0 z1 z2 z3 z4 z5 hbox
  generalize cmpA (l.getD i al0) (l.getD j al0) = k1 at *
  generalize cmpZ (i : Int) (j : Int) = k2 at *
  generalize thenC k1 k2 = kk at *
  generalize l.getD i al0 = A at *
  generalize l.getD j al0 = B at *
  obtain ⟨ak, asv, af, afi, al, ax⟩ := A
  obtain ⟨bk, bsv, bf, bfi, bl, bx⟩ := B
  dsimp only at *
  go_enter Tryz.func75, Tryz.ntmps75
  go_wp2
  refine wp_drawn_on (fun W => Grows u0 W) (by kernel_rfl) ((Grows.refl _).drew) (fun hHeld => ?_)
  refine wT 0 (v := ?v1) rfl (by kernel_rfl) (fun _ _ _ h => h) ?h1 (by assumption) ?r1
  case h1 => (intro w hSw; (try dsimp only at hSw); go_simp; try with_reducible rfl)
  refine wT 1 (v := ?v2) rfl (by kernel_rfl) (fun _ _ _ h => h) ?h2 (by assumption) ?r2
  case h2 => (intro w hSw; (try dsimp only at hSw); go_simp; try with_reducible rfl)
  refine wT 2 (v := ?v3) rfl (by kernel_rfl) (fun _ _ _ h => h) ?h3 (by assumption) ?r3
  case h3 => (intro w hSw; (try dsimp only at hSw); go_simp; try with_reducible rfl)
  refine wT 3 (v := ?v4) rfl (by kernel_rfl) (fun _ _ _ h => h) ?h4 (by assumption) ?r4
  case h4 => (intro w hSw; (try dsimp only at hSw); go_simp; try with_reducible rfl)
  refine wT 4 (v := ?v5) rfl (by kernel_rfl) (fun _ _ _ h => h) ?h5 (by assumption) ?r5
  case h5 => (intro w hSw; (try dsimp only at hSw); go_simp; try with_reducible rfl)
  refine wT 5 (v := ?v6) rfl (by kernel_rfl) (fun _ _ _ h => h) ?h6 (by assumption) ?r6
  case h6 => (intro w hSw; (try dsimp only at hSw); go_simp; try with_reducible rfl)
  refine wT 6 (v := ?v7) rfl (by kernel_rfl) (fun _ _ _ h => h) ?h7 (by assumption) ?r7
  case h7 => (intro w hSw; (try dsimp only at hSw); go_simp; try with_reducible rfl)
  refine wT 7 (v := ?v8) rfl (by kernel_rfl) (fun _ _ _ h => h) ?h8 (by assumption) ?r8
  case h8 => (intro w hSw; (try dsimp only at hSw); go_simp; try with_reducible rfl)
  refine wT 9 (v := ?v9) rfl (by kernel_rfl) (fun _ _ _ h => h) ?h9 (by assumption) ?r9
  case h9 => (intro w hSw; (try dsimp only at hSw); go_simp; try with_reducible rfl)
  refine wT 10 (v := ?v10) rfl (by kernel_rfl) (fun _ _ _ h => h) ?h10 (by assumption) ?r10
  case h10 => (intro w hSw; (try dsimp only at hSw); go_simp; try with_reducible rfl)
  try simp only [Act.put, List.setIfInBounds_toArray, List.set_cons_zero, List.set_cons_succ]
  refine wpAnyH_ready (rs := [8]) (by kernel_rfl) (by simp) ?_
  refine AllReadyH.cons (o := ⟨_, _, _, _, _, _⟩) rfl (fun K hK => ?_) AllReadyH.nil
  go_simp
  with_reducible refine (q1.out _).mono ?_
  rintro e v1 ⟨rfl, b1⟩
  go_simp
  refine hK.out _ _ (hHeld.trans b1) (fun hHeld => ?_)
  clear hK K
  try simp only [Act.put, List.setIfInBounds_toArray, List.set_cons_zero, List.set_cons_succ]
  refine wpAnyH_ready (rs := [11]) (by kernel_rfl) (by simp) ?_
  refine AllReadyH.cons (o := ⟨_, _, _, _, _, _⟩) rfl (fun K hK => ?_) AllReadyH.nil
  go_simp
  with_reducible refine (q2.out _).mono ?_
  rintro e w2 ⟨rfl, rfl⟩
  go_simp
  refine hK.out _ _ (hHeld) (fun hHeld => ?_)
  clear hK K
  try simp only [Act.put, List.setIfInBounds_toArray, List.set_cons_zero, List.set_cons_succ]
  refine wpAnyH_ready (rs := [12]) (by kernel_rfl) (by simp) ?_
  refine AllReadyH.cons (o := ⟨_, _, _, _, _, _⟩) rfl (fun K hK => ?_) AllReadyH.nil
  go_simp
  obtain ⟨v12, hv12⟩ : ∃ v12, v12 = v1.alloc (.cells #[.int .i64 k1, .int .i64 k2] 3) := ⟨_, rfl⟩
  have hx12 : Grows v1 v12 := (by rw [hv12]; exact (Grows.refl _).alloc _)
  have q4 := Lib.hid (q3.out v1.heap.size v12 (by rw [hv12]; exact (Holds.new v1 3 #[.int .i64 k1, .int .i64 k2]).cell 0) (by rw [hv12]; exact (Holds.new v1 3 #[.int .i64 k1, .int .i64 k2]).cell 1))
  rw [← hv12]
  clear hv12
  refine hK.out _ _ (hHeld.trans hx12) (fun hHeld => ?_)
  clear hK K
  try simp only [Act.put, List.setIfInBounds_toArray, List.set_cons_zero, List.set_cons_succ]
  refine wpAnyH_ready (rs := [13]) (by kernel_rfl) (by simp) ?_
  refine AllReadyH.cons (o := ⟨_, _, _, _, _, _⟩) rfl (fun K hK => ?_) AllReadyH.nil
  go_simp
  with_reducible refine q4.out.mono ?_
  rintro e w2 ⟨rfl, rfl⟩
  go_simp
  refine hK.out _ _ (hHeld) (fun hHeld => ?_)
  clear hK K
  refine wT 14 (v := ?v11) rfl (by kernel_rfl) (fun _ _ _ h => h) ?h11 (by assumption) ?r11
  case h11 => (intro w hSw; (try dsimp only at hSw); go_simp; try with_reducible rfl)
  try simp only [Act.put, List.setIfInBounds_toArray, List.set_cons_zero, List.set_cons_succ]
  refine wpAnyH_done (by kernel_rfl) ?_ _
  have hG := Lib.hid hHeld
  clear hHeld
  go_wp2
  go_ret
  exact ⟨rfl, hG.out⟩
theorem sort_belowE {α : Type} [Inhabited α] (enc : α → Value) (w : World) (g off m : Nat) (d : Array α) (os : Array Obj) : BelowE [g] w.heap.size w (sortWorld enc w g off m d os) := by
  unfold sortWorld
  refine ⟨rfl, rfl, rfl, ?_, fun k hk hx => ?_⟩
  · rw [Go.Sort.size_grow]
    simp [Go.Sort.putRow, Go.Sort.mapBlock, Go.Sort.ahead]
  · rw [Go.Sort.heap_grow_old]
    · have hne : g ≠ k := fun e => hx (by simp [e])
      simp [Go.Sort.putRow, Go.Sort.mapBlock, Go.Sort.ahead, Array.getElem?_modify, hne]
    · simpa [Go.Sort.putRow, Go.Sort.mapBlock, Go.Sort.ahead] using hk
set_option maxHeartbeats 1000000 in
theorem fsort_any (l : List AlD) (a : Option Addr) (n c g Bl : Nat) (w0 w : World) (h0 : RO alC w0 a n c l) (hb : Below w0.heap.size w0 w) (hg : w0.heap.size ≤ g) (hgl : g < w.heap.size) (hBl : Bl < w.heap.size) (hne : Bl ≠ g)
    (hbox : w.cell? ⟨Bl, 0, none⟩ = some (.slice a n c)) (hrow : ∀ j, j < n → w.cell? ⟨g, j, none⟩ = some (.int .i64 (j : Int)) ∧ w.frozen? ⟨g, j, none⟩ = false) (hn : n < 4611686018427387904) :
    Calls Tryz.prog 74 #[.slice (some ⟨g, 0, none⟩) n n, .func (.func 75) #[] #[.pointer (some ⟨Bl, 0, none⟩)]] w fun e w' =>
      e = .returned (.tuple #[]) ∧ BelowE [g] w.heap.size w w' ∧ ∀ j, j < n → w'.cell? ⟨g, j, none⟩ = some (.int .i64 ((placesF l al0 n).getD j 0 : Nat)) := by
  by_cases hn0 : n = 0
  · subst hn0
    refine (Tryz.slices_SortFunc_none (α := Nat) _ 0 _ w).mono ?_
    rintro e w' ⟨rfl, rfl⟩
    exact ⟨rfl, BelowE.refl _ _ _, fun j hj => by omega⟩
  haveI : Inhabited (Fin n) := ⟨⟨0, by omega⟩⟩
  have eg : ∀ args w, (callFunc 75 args).run Tryz.prog w = .ok (.enter 75 args) w := enters_of Tryz.func75 (by kernel_rfl) rfl
  have hfs : (List.finRange n).toArray.size = n := by simp
  have hcmp : CmpLays1 Tryz.prog 75 #[.pointer (some ⟨Bl, 0, none⟩)] (fun i : Fin n => Value.int .i64 (i.val : Int)) (cfF l al0 n) g 0 (List.finRange n).toArray.size w := by
    intro m os dk hs x y
    have hE := sort_belowE (fun i : Fin n => Value.int .i64 (i.val : Int)) w g 0 m dk os
    have hb1 : Below w0.heap.size w0 (sortWorld (fun i : Fin n => Value.int .i64 (i.val : Int)) w g 0 m dk os) := hb.trans ((hE.mono hb.size).toBelow (by intro x hx; simp at hx; omega))
    have hx1 : (sortWorld (fun i : Fin n => Value.int .i64 (i.val : Int)) w g 0 m dk os).cell? ⟨Bl, 0, none⟩ = some (.slice a n c) := (hE.cell (p := ⟨Bl, 0, none⟩) hBl (by simpa using hne)).trans hbox
    have q := fcl_any l a n c Bl _ (h0.below hb1) hx1 (Nat.lt_of_lt_of_le hBl hE.size) x.val y.val x.isLt y.isLt
    exact q.mono fun e w' h => h
  have hH : Go.Sort.Holds (fun i : Fin n => Value.int .i64 (i.val : Int)) w g 0 (List.finRange n).toArray := by
    intro j hj
    rw [hfs] at hj
    have e : (List.finRange n).toArray[j]! = ⟨j, hj⟩ := by
      rw [getElem!_pos _ j (by simpa using hj)]
      simp
    rw [e, Nat.zero_add]
    exact hrow j hj
  have hS := Tryz.slices_SortFunc_total (fun i : Fin n => Value.int .i64 (i.val : Int)) (fun _ => rfl) (cfF l al0 n) (cmF l al0 n).swo 75 #[.pointer (some ⟨Bl, 0, none⟩)] g 0 n (List.finRange n).toArray w eg hcmp hH hgl (by rw [hfs]; exact hn) (cmF l al0 n).tot
  rw [hfs] at hS
  refine hS.mono ?_
  rintro e w' ⟨rfl, m, os, rfl⟩
  refine ⟨rfl, sort_belowE _ w g 0 m _ os, fun j hj => ?_⟩
  unfold sortWorld
  rw [Go.Sort.cell?_grow _ _ _ (by simpa [Go.Sort.putRow, Go.Sort.mapBlock, Go.Sort.ahead] using hgl)]
  have hH2 := Go.Sort.holds_putRow (fun i : Fin n => Value.int .i64 (i.val : Int)) (Go.Sort.ahead w m) g 0 (List.finRange n).toArray ((List.finRange n).mergeSort fun x y => !(ltOf (cfF l al0 n)) y x).toArray hH (by simp)
  have hj2 : j < ((List.finRange n).mergeSort fun x y => !(ltOf (cfF l al0 n)) y x).length := by simpa using hj
  have q := (hH2 j (by simpa using hj)).1
  rw [Nat.zero_add] at q
  simp only [List.toList_toArray]
  rw [q, getElem!_pos _ j (by simpa using hj)]
  congr 2
  simp [placesF, List.getD, hj]
end Go.Proofs.YtpchncpcckfghaaGreat
namespace Go.Proofs.YtpchncpcckfghaaGreat
open Go.RowKit
set_option linter.unusedVariables false
set_option linter.unusedSimpArgs false
theorem keyL_bs (k : Int) (f : ByteArray) {x : List Int} (hx : Bs x) : Bs (keyL k f x) := by
  intro c hc
  simp only [keyL, List.mem_append] at hc
  rcases hc with hc | (hc | hc) | hc | hc
  · exact leb_bytes _ c hc
  · exact leb_bytes _ c hc
  · exact codes_bs f c hc
  · exact leb_bytes _ c hc
  · exact hx c hc
theorem keyL_len (k : Int) (hk : (Lit.int .i64 k).wf = true) (f : ByteArray) (hf : f.size ≤ 1000) {x : List Int} (hx : x.length ≤ 1000) : (keyL k f x).length ≤ 100000 := by
  have := i64_wf hk
  have h1 := leb_len64 (n := (max k 0).toNat) (by omega)
  have h2 := leb_len64 (n := f.size) (by omega)
  have h3 := leb_len64 (n := x.length) (by omega)
  have h4 := codes_length f
  simp only [keyL, List.length_append]; omega
end Go.Proofs.YtpchncpcckfghaaGreat
namespace Go.Proofs.YtpchncpcckfghaaGreat
open Go.RowKit
set_option linter.unusedVariables false
theorem run_storeCells_atT (P : Program) (g o : Nat) (t : TypeId) (fz : Nat × Nat) : ∀ (vs : List Value) (i : Nat) (cur : Array Value) (w : World), w.heap[g]? = some (.cells cur t fz) → o + i + vs.length ≤ fz.1 → o + i + vs.length ≤ cur.size → (∀ v ∈ vs, v.oneCell' = true) →
    (storeCells ⟨g, o, none⟩ vs i).run P w = .ok () (w.setRow g (cur.toList.take (o + i) ++ vs ++ cur.toList.drop (o + i + vs.length)).toArray)
  | [], i, cur, w, hg, _, _, _ => by
    simp only [storeCells, List.append_nil, List.length_nil, Nat.add_zero, List.take_append_drop, Array.toArray_toList]
    rw [setRow_self w g cur t fz hg]
    rfl
  | v :: rest, i, cur, w, hg, hfz, hl, h1 => by
    have hi : o + i < cur.size := by simp at hl; omega
    have hadd : (⟨g, o, none⟩ : Addr).add i = ⟨g, o + i, none⟩ := by unfold Addr.add; split <;> simp_all
    have hcell : w.cell? ⟨g, o + i, none⟩ = some cur[o + i] := by simp [World.cell?, hg, hi]
    have hfro : w.frozen? ⟨g, o + i, none⟩ = false := by
      obtain ⟨lo, hi'⟩ := fz
      simp only [World.frozen?, hg, Bool.and_eq_false_iff, decide_eq_false_iff_not]
      left
      simp only [List.length_cons] at hfz
      omega
    have hst : (store ((⟨g, o, none⟩ : Addr).add i) v).run P w = .ok () (w.setRow g (cur.setIfInBounds (o + i) v)) := by
      rw [hadd, run_store P w _ v _ (h1 v (by simp)), hcell]
      simp [hfro, setCell_eq_setRow w g (o + i) cur t fz v hg]
    have ih := run_storeCells_atT P g o t fz rest (i + 1) (cur.setIfInBounds (o + i) v) (w.setRow g (cur.setIfInBounds (o + i) v)) (setRow_heap w g cur _ t _ hg) (by simp at hfz ⊢; omega) (by simp at hl ⊢; omega) (fun x hx => h1 x (by simp [hx]))
    simp only [storeCells, Sem.run_bind, hst, Result.andThen_ok, ih, setRow_setRow]
    congr 3
    have e := list_seg_step cur.toList (o + i) v rest (by simp at hl ⊢; omega)
    simpa [Array.toList_setIfInBounds, Nat.add_assoc] using e
def TailR (base : Nat) (w : World) (e : TypeId) (g n c : Nat) (l : List Int) : Prop :=
  ∃ cur fz, base ≤ g ∧ w.heap[g]? = some (.cells cur e fz) ∧ c ≤ fz.1 ∧ n = l.length ∧ n ≤ c ∧ cur.size = c ∧ cur.toList.take n = nums .u8 l
theorem TailR.below {base : Nat} {w w' : World} {e : TypeId} {g n c : Nat} {l : List Int} (h : TailR base w e g n c l) (hb : Below w.heap.size w w') : TailR base w' e g n c l := by
  obtain ⟨cur, fz, h1, h2, h3⟩ := h
  exact ⟨cur, fz, h1, (hb.block g (Array.getElem?_eq_some_iff.1 h2).1).trans h2, h3⟩
theorem TailR.cells {base : Nat} {w : World} {e : TypeId} {g n c : Nat} {l : List Int} (h : TailR base w e g n c l) : ∀ j u, (nums .u8 l)[j]? = some u → w.cell? ((⟨g, 0, none⟩ : Addr).add j) = some u := by
  intro j u hu
  obtain ⟨cur, fz, _, h2, _, hn, hnc, hcs, htake⟩ := h
  have hadd : (⟨g, 0, none⟩ : Addr).add j = ⟨g, j, none⟩ := by unfold Addr.add; split <;> simp_all
  rw [hadd, cell_of_row w g j cur e fz h2]
  rw [← htake, List.getElem?_take] at hu
  split at hu
  · simpa using hu
  · cases hu
theorem run_bytes_tail {P : Program} (w : World) (src dst e : TypeId) (s : ByteArray) (hs : P.underlying src = some .string) (hd : P.underlying dst = some (.slice e)) (he : P.underlying e = some (.int .u8)) :
    ∃ c w', (convert src dst (.string s)).run P w = .ok (.slice (some ⟨w.heap.size, 0, none⟩) s.size c) w' ∧ TailR w.heap.size w' e w.heap.size s.size c (codes s) ∧ Below w.heap.size w w' ∧ w'.heap.size = w.heap.size + 1 := by
  refine ⟨_, _, Lib.run_convert_string_bytes w src dst e s hs hd he, ⟨_, _, Nat.le_refl _, Lib.bytesWorld_at_new w e s, ?_, (codes_length s).symm, grownCap_ge _ _ _ _, ?_, ?_⟩, ⟨rfl, rfl, rfl, by rw [Lib.bytesWorld_size]; omega, fun k hk => Lib.bytesWorld_at_old w e s k hk⟩, Lib.bytesWorld_size w e s⟩
  · have := grownCap_ge w s.size 0 e
    simp [Lib.bytesCells]
    have e1 : s.data.size = s.size := rfl
    omega
  · have := grownCap_ge w s.size 0 e
    simp [Lib.bytesCells]
    have e1 : s.data.size = s.size := rfl
    omega
  · have e1 : s.data.toList.length = s.size := rfl
    simp only [Lib.bytesCells, Array.toList_append, Array.toList_map]
    rw [List.take_append_of_le_length (by simp <;> omega), List.take_of_length_le (by simp <;> omega)]
    simp [nums, codes]
theorem wpList_append_tail {P : Program} {w0 w : World} {ops : Array Oper} {rest : List Oper} {o : Oper} {a : Act} {Q : Exit → Act → World → Prop}
    (hg : o.guard = none) (s x : Operand) (t : TypeId) (hop : o.op = Op.call { callee := Callee.builtin Builtin.append, args := #[s, x], argTypes := #[t, t] })
    (e : TypeId) (i : TypeInfo) (ht : P.underlying t = some (.slice e)) (hi : P.info? e = some i) (hz : i.zero = some (.int .u8 0)) (hsize : i.size = 1) (hby : i.bytes = 1)
    (g n cap : Nat) (l : List Int) (hown : TailR w0.heap.size w e g n cap l) (hb : Below w0.heap.size w0 w)
    (ad : Addr) (r : List Int) (m c : Nat) (hm : m = r.length) (hse : Sees .u8 w.heap.size w (some ad) r)
    (hsv : a.eval s = .slice (some ⟨g, 0, none⟩) n cap) (hx : a.eval x = .slice (some ad) m c) (hn : l.length + r.length ≤ 140737488355328)
    (hK : ∀ a' c' w', Sees .u8 w'.heap.size w' a' (l ++ r) → Below w0.heap.size w0 w' → wpList P ops Q rest (a.put o.dst (.slice a' (l ++ r).length c')) w') : wpList P ops Q (o :: rest) a w := by
  have hnews : ∀ j u, (nums .u8 r)[j]? = some u → w.cell? (ad.add j) = some u := by
    intro j u hj
    have hjl : j < r.length := by have := (List.getElem?_eq_some_iff.1 hj).1; simpa [nums] using this
    rcases hse with rfl | ⟨b, off, ha, _, hc⟩
    · simp at hjl
    · injection ha with ha
      subst ha
      have h2 : (⟨b, off, none⟩ : Addr).add j = ⟨b, off + j, none⟩ := by unfold Addr.add; split <;> simp_all
      rw [h2, hc j hjl]
      simp [nums, hjl] at hj
      simp [List.getD, hjl, hj]
  have h1c : ∀ u ∈ nums .u8 r, u.oneCell' = true := by
    intro u hu
    obtain ⟨y, _, rfl⟩ := List.mem_map.1 hu
    rfl
  have hlen : (l ++ r).length = n + m := by obtain ⟨_, _, _, _, _, h, _⟩ := hown; rw [List.length_append, h, hm]
  by_cases hroom : n + m ≤ cap
  · obtain ⟨cur, fz, hbg, hgg, hfz, hnl, hnc, hcs, htake⟩ := hown
    have hf := run_firstCells_some (P := P) w i.size m ad m c (nums .u8 r) (by rw [hsize, hm]; simp [nums]) hnews
    have hst := run_storeCells_atT P g n e fz (nums .u8 r) 0 cur w hgg (by simp [nums] <;> omega) (by simp [nums] <;> omega) h1c
    simp only [Nat.add_zero] at hst
    have hr : (Builtin.append_ #[t, t] o.type #[.slice (some ⟨g, 0, none⟩) n cap, .slice (some ad) m c]).run P w = .ok (.slice (some ⟨g, 0, none⟩) (n + m) cap) (w.setRow g (cur.toList.take n ++ nums .u8 r ++ cur.toList.drop (n + (nums .u8 r).length)).toArray) := by
      rw [hsize] at hf
      simp [Builtin.append_, run_underlying ht, sizeOf, typeInfo, hi, hsize, Builtin.lenOf, hroom, Addr.add_lit, hf, hst]
    refine wpList_plain hg fun K hK' => ?_
    unfold Oper.wp
    simp [execOp, hop, resolve, invoke, builtin, hsv, hx, hr, Result.andThen]
    rw [← hlen]
    refine hK' _ _ (hK _ _ _ ?_ ?_)
    · refine .inr ⟨g, 0, rfl, by simpa using (Array.getElem?_eq_some_iff.1 hgg).1, fun j hj => ?_⟩
      rw [cell_of_row _ g _ _ e fz (setRow_heap w g cur _ e fz hgg)]
      simp only [List.getElem?_toArray, Nat.zero_add, htake]
      have e2 : nums .u8 l ++ nums .u8 r = nums .u8 (l ++ r) := by simp [nums]
      rw [← List.append_assoc, e2, List.getElem?_append_left (by simp only [nums, List.length_map]; exact hj)]
      generalize l ++ r = L at hj ⊢
      simp [nums, List.getD, hj]
    · exact hb.trans ⟨rfl, rfl, rfl, by simp, fun k hk => setRow_other w g k _ (by omega)⟩
  · have hcells := hown.cells
    have hnl : n = l.length := by obtain ⟨_, _, _, _, _, h, _⟩ := hown; exact h
    have hlo : (nums .u8 l).length = n * 1 := by simp [nums, hnl]
    refine wpList_append_grows w hg s x t hop e i (.int .u8 0) 1 1 ht hi hz hsize hby rfl (by decide) (some ⟨g, 0, none⟩) n cap (nums .u8 l) hsv (by intro h; cases h) hlo
      (by intro b hb2; injection hb2 with hb2; subst hb2; exact hcells) ad m c (nums .u8 r) hx (by simp [nums, hm]) hnews h1c (by omega) (by unfold maxLen; omega) (by omega) ?_
    intro v' w' hown3 hgrow
    have e1 : nums .u8 l ++ nums .u8 r = nums .u8 (l ++ r) := by simp [nums]
    rw [e1, ← hlen] at hown3
    obtain ⟨a', c', rfl, -, s'⟩ := sees_own hown3
    exact hK _ _ _ s' (hb.grown hgrow hb.size (by intro k hk; simp at hk))
end Go.Proofs.YtpchncpcckfghaaGreat
namespace Go.Proofs.YtpchncpcckfghaaGreat
open Go.RowKit
set_option linter.unusedVariables false
set_option linter.unusedSimpArgs false
theorem keyA_bs (a : AlD) : Bs (keyA a) := keyL_bs a.kind a.fn (normS_bs (codes_bs _))
theorem keyA_len (a : AlD) (hk : (Lit.int .i64 a.kind).wf = true) (h : smallA a) : (keyA a).length ≤ 100000 := keyL_len a.kind hk a.fn (by have := h.1; omega) (by have := normS_len (codes a.expr); rw [codes_length] at this; have := h.2.2; omega)
theorem fkey_any (a : AlD) (hk : (Lit.int .i64 a.kind).wf = true) (h : smallA a) (w : World) :
    Calls Tryz.prog 51 #[.agg #[.int .i64 a.kind, .int .i64 a.sev, .string a.fn, .string a.file, .int .i64 a.line, .string a.expr]] w (Made 5 .u8 w (keyA a)) := by
  have q := Lib.hid (fun W => key_any a.kind hk a.fn a.expr (by have := h.1; omega) (by have := h.2.2; omega) W)
  have b0 := Lib.hid (box_below w #[.int .i64 a.kind, .int .i64 a.sev, .string a.fn, .string a.file, .int .i64 a.line, .string a.expr] 54)
  unfold keyA
  generalize keyL a.kind a.fn (normS (codes a.expr)) = K at *
  clear hk h
  obtain ⟨ak, asv, af, afi, al, ax⟩ := a
  dsimp only at q b0 ⊢
  go_enter Tryz.func51, Tryz.ntmps51
  go_wp2_with fail
  with_reducible refine (q.out _).mono ?_
  rintro e w1 h1
  have h1' := Lib.hid h1
  obtain ⟨v, rfl, -, -⟩ := h1
  go_wp2
  go_ret
  obtain ⟨v', e1, o1, bb⟩ := h1'.out
  exact ⟨v', e1, own_from o1 (fun q hq => Nat.le_trans b0.out.size ((o1.lt q hq).1)), b0.out.trans (bb.mono b0.out.size)⟩
theorem fof_any (k : List Int) (hb : Bs k) (hl : k.length ≤ 100000) (a : Option Addr) (c : Nat) (r : Int) (hr : (Lit.int .i64 r).wf = true) (B : Nat) (w : World) (hs : Sees .u8 B w a k) :
    Calls Tryz.prog 50 #[.slice a k.length c, .int .i64 r] w (Gives (.int .u64 (oneK k (max r 0).toNat)) w) := by
  have hr' := i64_wf hr
  have hm0 : 0 ≤ max r 0 := by omega
  have hm1 : U64 (max r 0) := by unfold U64; omega
  have h10 := hm1.le10
  have hwr : IntKind.u64.wrap (max r 0) = max r 0 := wrap_u64_in hm0 hm1.2
  have q1 := Lib.hid (sum_any a k k.length c rfl B w (by unfold maxLen; omega) hb hs)
  have q2 := Lib.hid (fun W => put_any (max r 0) W hm0 hm1)
  have q3 := Lib.hid (fun (A : Option Addr) (C : Nat) (W : World) (h : Sees .u8 W.heap.size W A (leb (max r 0).toNat)) => more_any (fsum fstart k) (fsum_in fstart_in k) A (leb (max r 0).toNat) (leb (max r 0).toNat).length C rfl _ W (by unfold maxLen; omega) (leb_bytes _) h)
  unfold oneK
  clear hs hb hl h10 hm1 hm0 hr'
  generalize leb (max r 0).toNat = L at *
  generalize fsum fstart k = s at *
  generalize fsum s L = R at *
  generalize k.length = n at *
  go_enter Tryz.func50, Tryz.ntmps50
  go_wp2_with fail
  with_reducible refine q1.out.mono ?_
  rintro e w1 ⟨rfl, rfl⟩
  clear q1
  go_wp2_with fail
  with_reducible refine (q2.out _).mono ?_
  rintro e w1 h1
  obtain ⟨a1, c1, rfl, s1, b1⟩ := h1.open _ rfl
  have b1' := Lib.hid b1
  clear h1 q2 b1
  go_wp2_with fail
  with_reducible refine (q3.out _ _ _ s1).mono ?_
  rintro e w2 ⟨rfl, rfl⟩
  clear q3 s1
  go_wp2
  go_ret
  exact ⟨rfl, b1'.out⟩
theorem fone_any (a : AlD) (hk : (Lit.int .i64 a.kind).wf = true) (h : smallA a) (r : Int) (hr : (Lit.int .i64 r).wf = true) (w : World) :
    Calls Tryz.prog 28 #[.agg #[.int .i64 a.kind, .int .i64 a.sev, .string a.fn, .string a.file, .int .i64 a.line, .string a.expr], .int .i64 r] w (Gives (.int .u64 (oneA a r)) w) := by
  have q := Lib.hid (fun W => fkey_any a hk h W)
  have q2 := Lib.hid (fun (A : Option Addr) (C : Nat) (W : World) (hs : Sees .u8 W.heap.size W A (keyA a)) => fof_any (keyA a) (keyA_bs a) (keyA_len a hk h) A C r hr _ W hs)
  have b0 := Lib.hid (box_below w #[.int .i64 a.kind, .int .i64 a.sev, .string a.fn, .string a.file, .int .i64 a.line, .string a.expr] 54)
  unfold oneA
  generalize keyA a = K at *
  clear hk h hr
  generalize oneK K (max r 0).toNat = R at *
  obtain ⟨ak, asv, af, afi, al, ax⟩ := a
  dsimp only at q b0 ⊢
  go_enter Tryz.func28, Tryz.ntmps28
  go_wp2_with fail
  with_reducible refine (q.out _).mono ?_
  rintro e w1 h1
  obtain ⟨a1, c1, rfl, s1, b1⟩ := h1.open _ rfl
  have b1' := Lib.hid (b0.out.trans (b1.mono b0.out.size))
  clear h1 q b1 b0
  go_wp2_with fail
  with_reducible refine (q2.out _ _ _ s1).mono ?_
  rintro e w2 ⟨rfl, b2⟩
  have b2' := Lib.hid (b1'.out.trans (b2.mono b1'.out.size))
  clear q2 s1 b2
  go_wp2
  go_ret
  exact ⟨rfl, b2'.out⟩
theorem rfkey_any (a : AlD) (hk : (Lit.int .i64 a.kind).wf = true) (h : smallA a) (w : World) :
    Calls Tryz.prog 65 #[.agg #[.int .i64 a.kind, .int .i64 a.sev, .string a.fn, .string a.file, .int .i64 a.line, .string a.expr]] w (Gives (.string (strOfNums (keyA a))) w) := by
  have q := Lib.hid (fun W => rkey_any a.kind hk a.fn a.expr (by have := h.1; omega) (by have := h.2.2; omega) W)
  have b0 := Lib.hid (box_below w #[.int .i64 a.kind, .int .i64 a.sev, .string a.fn, .string a.file, .int .i64 a.line, .string a.expr] 54)
  unfold keyA
  generalize keyL a.kind a.fn (normS (codes a.expr)) = K at *
  clear hk h
  obtain ⟨ak, asv, af, afi, al, ax⟩ := a
  dsimp only at q b0 ⊢
  go_enter Tryz.func65, Tryz.ntmps65
  go_wp2_with fail
  with_reducible refine (q.out _).mono ?_
  rintro e w1 h1
  obtain ⟨a1, c1, rfl, s1, b1⟩ := h1.open _ rfl
  have hcv := conv_sees (P := Tryz.prog) 82 9 5 Tryz.underlying82 Tryz.underlying5 Tryz.underlying9 s1 _ c1 rfl
  have b1' := Lib.hid (b0.out.trans (b1.mono b0.out.size))
  clear h1 q b1 b0 s1
  go_wp2
  go_ret
  exact ⟨rfl, b1'.out⟩
theorem rfone_any (a : AlD) (hk : (Lit.int .i64 a.kind).wf = true) (h : smallA a) (r : Int) (hr : (Lit.int .i64 r).wf = true) (w : World) :
    Calls Tryz.prog 48 #[.agg #[.int .i64 a.kind, .int .i64 a.sev, .string a.fn, .string a.file, .int .i64 a.line, .string a.expr], .int .i64 r] w (Gives (.int .u64 (oneA a r)) w) := by
  obtain ⟨i0, hi, hz0, hz1, hz2⟩ := info_parts infoU8
  have hr' := i64_wf hr
  have h10 := (show U64 (max r 0) by unfold U64; omega).le10
  have hkl := keyA_len a hk h
  have hkb := keyA_bs a
  have q := Lib.hid (fun W => rfkey_any a hk h W)
  have q2 := Lib.hid (fun W => rnum_any (max r 0) W (by omega) (by omega))
  have hcv := Lib.hid (fun W : World => run_bytes_tail (P := Tryz.prog) W 9 82 5 (strOfNums (keyA a)) Tryz.underlying9 Tryz.underlying82 Tryz.underlying5)
  rw [codes_str hkb] at hcv
  have hsz : (strOfNums (keyA a)).size = (keyA a).length := strOfNums_size _
  rw [hsz] at hcv
  have q3 := Lib.hid (fun (A : Option Addr) (C : Nat) (W : World) (hs : Sees .u8 W.heap.size W A (keyA a ++ leb (max r 0).toNat)) => refsum_any A (keyA a ++ leb (max r 0).toNat) ((keyA a).length + (leb (max r 0).toNat).length) C (by simp) _ W (by unfold maxLen; simp; omega) ((fun x hx => (List.mem_append.1 hx).elim (hkb x) (leb_bytes _ x))) hs)
  rw [one_app] at q3
  have e1 : Hid ((keyA a).length + (leb (max r 0).toNat).length ≤ 140737488355328) := Lib.hid (by omega)
  have b0 := Lib.hid (box_below w #[.int .i64 a.kind, .int .i64 a.sev, .string a.fn, .string a.file, .int .i64 a.line, .string a.expr] 54)
  unfold oneA
  generalize oneK (keyA a) (max r 0).toNat = R at *
  generalize keyA a = K at *
  clear hk h hr h10 hkb hkl
  have main : ∀ m : Int, m = max r 0 → Hid (∀ W, Calls Tryz.prog 66 #[.int .i64 m] W (Made 5 .u8 W (leb (max r 0).toNat))) := by rintro m rfl; exact q2
  have hLne : Hid (leb (max r 0).toNat ≠ []) := Lib.hid (fun h => by have := leb_pos (max r 0).toNat; rw [h] at this; simp at this)
  generalize leb (max r 0).toNat = L at *
  obtain ⟨ak, asv, af, afi, al, ax⟩ := a
  dsimp only at q b0 ⊢
  generalize strOfNums K = sK at *
  clear q2 hsz
  by_cases hneg : r < 0
  · have q2 := main 0 (by omega)
    clear main hr'
    go_enter Tryz.func48, Tryz.ntmps48
    go_wp2_with fail
    with_reducible refine (q.out _).mono ?_
    rintro e w1 ⟨rfl, b1⟩
    replace b0 := Lib.hid (b0.out.trans (b1.mono b0.out.size))
    obtain ⟨c, w2, hrun, ho, hb, hz⟩ := hcv.out w1
    have hz' := Lib.hid hz
    have ho' := Lib.hid ho
    have hb' := Lib.hid hb
    clear hz hcv q b1 ho hb
    go_wp2_with fail
    with_reducible refine (q2.out _).mono ?_
    rintro e w3 h3
    obtain ⟨a3, c3, rfl, s3, b3⟩ := h3.open _ rfl
    obtain ⟨ad, rfl⟩ : ∃ ad, a3 = some ad := by
      rcases s3 with h | ⟨b, off, h, _⟩
      · exact absurd h hLne.out
      · exact ⟨_, h⟩
    have ho3 := Lib.hid (ho'.out.below b3)
    have b3' := Lib.hid (hb'.out.trans (b3.mono hb'.out.size))
    clear h3 q2 b3 ho'
    go_wp2_with (at_builtin; refine wpList_append_tail (w0 := w1) rfl (.tmp 9) (.tmp 11) 82 rfl 5 i0 Tryz.underlying82 hi hz0 hz1 hz2 _ _ _ K ho3.out b3'.out ad L L.length c3 rfl s3 rfl rfl e1.out ?_; intro a4 c4 w4 s4 b4)
    replace b0 := Lib.hid (b0.out.trans (b4.mono b0.out.size))
    clear b4 s3 b3' ho3
    go_wp2_with fail
    with_reducible refine (q3.out _ _ _ s4).mono ?_
    rintro e w5 ⟨rfl, rfl⟩
    clear q3 s4
    go_wp2
    go_ret
    exact ⟨rfl, b0.out⟩
  · have q2 := main r (by omega)
    clear main hr'
    go_enter Tryz.func48, Tryz.ntmps48
    go_wp2_with fail
    with_reducible refine (q.out _).mono ?_
    rintro e w1 ⟨rfl, b1⟩
    replace b0 := Lib.hid (b0.out.trans (b1.mono b0.out.size))
    obtain ⟨c, w2, hrun, ho, hb, hz⟩ := hcv.out w1
    have hz' := Lib.hid hz
    have ho' := Lib.hid ho
    have hb' := Lib.hid hb
    clear hz hcv q b1 ho hb
    go_wp2_with fail
    with_reducible refine (q2.out _).mono ?_
    rintro e w3 h3
    obtain ⟨a3, c3, rfl, s3, b3⟩ := h3.open _ rfl
    obtain ⟨ad, rfl⟩ : ∃ ad, a3 = some ad := by
      rcases s3 with h | ⟨b, off, h, _⟩
      · exact absurd h hLne.out
      · exact ⟨_, h⟩
    have ho3 := Lib.hid (ho'.out.below b3)
    have b3' := Lib.hid (hb'.out.trans (b3.mono hb'.out.size))
    clear h3 q2 b3 ho'
    go_wp2_with (at_builtin; refine wpList_append_tail (w0 := w1) rfl (.tmp 9) (.tmp 11) 82 rfl 5 i0 Tryz.underlying82 hi hz0 hz1 hz2 _ _ _ K ho3.out b3'.out ad L L.length c3 rfl s3 rfl rfl e1.out ?_; intro a4 c4 w4 s4 b4)
    replace b0 := Lib.hid (b0.out.trans (b4.mono b0.out.size))
    clear b4 s3 b3' ho3
    go_wp2_with fail
    with_reducible refine (q3.out _ _ _ s4).mono ?_
    rintro e w5 ⟨rfl, rfl⟩
    clear q3 s4
    go_wp2
    go_ret
    exact ⟨rfl, b0.out⟩
end Go.Proofs.YtpchncpcckfghaaGreat
namespace Go.Proofs.YtpchncpcckfghaaGreat
open Go.RowKit
set_option linter.unusedVariables false
set_option linter.unusedSimpArgs false
theorem nums_set (k : IntKind) (l : List Int) (i : Nat) (x : Int) : (nums k l).toArray.setIfInBounds i (.int k x) = (nums k (l.set i x)).toArray := by simp [nums]
theorem nums_getD {k : IntKind} {l : List Int} {i : Nat} (h : i < l.length) : (nums k l).toArray[i]? = some (.int k (l.getD i 0)) := by simp [nums, List.getD, h]
set_option maxRecDepth 100000 in
set_option maxHeartbeats 2000000 in
theorem fof1_any (Bo go n c i : Nat) (r : Nat) (k : List Int) (hbk : Bs k) (hkl : k.length ≤ 100000) (out : List Int) (W : World) (hbox : W.cell? ⟨Bo, 0, none⟩ = some (.slice (some ⟨go, 0, none⟩) n c)) (hBo : Bo < W.heap.size) (hne : Bo ≠ go) (hrow : Holds W go 36 (nums .u64 out).toArray) (hn : n = out.length) (hm : n ≤ 9223372036854775807) (hi : i < n) (hr : r ≤ 9223372036854775807) :
    Calls Tryz.prog 54 #[.int .i64 i, .int .i64 r, .string (strOfNums k), .pointer (some ⟨Bo, 0, none⟩)] W fun e w' => e = .returned (.tuple #[]) ∧ BelowE [go] W.heap.size W w' ∧ Holds w' go 36 (nums .u64 (out.set i (oneK k r))).toArray := by
  have yb : ∀ V, BelowE [go] W.heap.size W V → V.cell? ⟨Bo, 0, none⟩ = some (.slice (some ⟨go, 0, none⟩) n c) := fun V hV => (hV.cell (p := ⟨Bo, 0, none⟩) hBo (by simpa using hne)).trans hbox
  have q0 : Hid ((nums .u64 out).toArray[i]? = some (.int .u64 (out.getD i 0))) := Lib.hid (nums_getD (by omega))
  have hset : Hid (∀ x, (nums .u64 out).toArray.setIfInBounds i (.int .u64 x) = (nums .u64 (out.set i x)).toArray) := Lib.hid (fun x => nums_set .u64 out i x)
  have hii : (i : Int) < (n : Int) := by omega
  have hcv := Lib.hid (fun W : World => run_bytes_sees (P := Tryz.prog) W 9 82 5 (strOfNums k) Tryz.underlying9 Tryz.underlying82 Tryz.underlying5)
  have hsk : (strOfNums k).size = k.length := strOfNums_size _
  rw [codes_str hbk, hsk] at hcv
  clear hsk
  have qof := Lib.hid (fun (A : Option Addr) (C : Nat) (V : World) (hs : Sees .u8 V.heap.size V A k) => fof_any k hbk hkl A C (r : Int) (by simp [Lit.wf, IntKind.min, IntKind.max, IntKind.signed, IntKind.bits]; omega) _ V hs)
  have er : (max (r : Int) 0).toNat = r := by omega
  rw [er] at qof
  have hgo := hrow.lt
  have hall : Holds W.drew go 36 (nums .u64 out).toArray := hrow.drew
  have hsz : BelowE [go] W.heap.size W W.drew := (BelowE.refl _ _ _).drew
  clear hbox hrow hn hbk hkl hr er hne
  generalize oneK k r = V0 at *
  generalize strOfNums k = sk at *
  generalize (nums .u64 out).toArray = oc at *
  generalize out.getD i 0 = ov at *
  go_enter Tryz.func54, Tryz.ntmps54
  go_wp2
  refine wp_drawn_on (fun V => BelowE [go] W.heap.size W V) (by kernel_rfl) (hsz) (fun hHeld => ?_)
  generalize W.drew = vd at hsz hall hHeld ⊢
  refine wT 0 (v := ?v1) rfl (by kernel_rfl) (fun _ _ _ h => h) ?h1 (by assumption) ?r1
  case h1 => (intro w hSw; (try dsimp only at hSw); go_simp; try with_reducible rfl)
  refine wT 1 (v := ?v2) rfl (by kernel_rfl) (fun _ _ _ h => h) ?h2 (by assumption) ?r2
  case h2 => (intro w hSw; (try dsimp only at hSw); go_simp; try with_reducible rfl)
  refine wT 2 (v := ?v3) rfl (by kernel_rfl) (fun _ _ _ h => h) ?h3 (by assumption) ?r3
  case h3 => (intro w hSw; (try dsimp only at hSw); go_simp; try with_reducible rfl)
  refine wT 4 (v := ?v4) rfl (by kernel_rfl) (fun _ _ _ h => h) ?h4 (by assumption) ?r4
  case h4 => (intro w hSw; (try dsimp only at hSw); go_simp; try with_reducible rfl)
  try simp only [Act.put, List.setIfInBounds_toArray, List.set_cons_zero, List.set_cons_succ]
  refine wpAnyH_ready (rs := [3]) (by kernel_rfl) (by simp) ?_
  refine AllReadyH.cons (o := ⟨_, _, _, _, _, _⟩) rfl (fun K hK => ?_) AllReadyH.nil
  obtain ⟨c3, w3, hrun3, -, hs3, hb3, -⟩ := hcv.out vd
  go_simp
  clear hrun3
  refine hK.out _ _ (hHeld.trans (.of (hb3.mono hHeld.size))) (fun hHeld => ?_)
  clear hK K
  try simp only [Act.put, List.setIfInBounds_toArray, List.set_cons_zero, List.set_cons_succ]
  refine wpAnyH_ready (rs := [5]) (by kernel_rfl) (by simp) ?_
  refine AllReadyH.cons (o := ⟨_, _, _, _, _, _⟩) rfl (fun K hK => ?_) AllReadyH.nil
  go_simp
  with_reducible refine (qof.out _ _ _ hs3).mono ?_
  rintro e w5 ⟨rfl, b5⟩
  go_simp
  refine hK.out _ _ (hHeld.trans (.of (b5.mono hHeld.size))) (fun hHeld => ?_)
  clear hK K
  refine wT 6 (v := ?v5) rfl (by kernel_rfl) (fun _ _ _ h => h) ?h5 (by assumption) ?r5
  case h5 => (intro w hSw; (try dsimp only at hSw); go_simp; try with_reducible rfl)
  try simp only [Act.put, List.setIfInBounds_toArray, List.set_cons_zero, List.set_cons_succ]
  refine wpAnyH_ready (rs := [7]) (by kernel_rfl) (by simp) ?_
  refine AllReadyH.cons (o := ⟨_, _, _, _, _, _⟩) rfl (fun K hK => ?_) AllReadyH.nil
  have hz := (hall.below hb3 hall.lt).below b5 (hall.below hb3 hall.lt).lt
  have z0 := (hz.cell i).trans q0.out
  have z1 := hz.free i
  go_simp
  clear z0 z1
  refine hK.out _ _ (hHeld.setIn (p := ⟨go, i, none⟩) (by simp) _) (fun hHeld => ?_)
  clear hK K
  try simp only [Act.put, List.setIfInBounds_toArray, List.set_cons_zero, List.set_cons_succ]
  refine wpAnyH_done (by kernel_rfl) ?_ _
  have hf := Lib.hid hHeld
  have hs := hz.set i (.int .u64 V0)
  rw [hset.out] at hs
  have hs' := Lib.hid hs
  clear hHeld hz hs hb3 b5 hs3 hall yb
  go_wp2
  go_end0
  exact ⟨rfl, hf.out, hs'.out⟩
end Go.Proofs.YtpchncpcckfghaaGreat
namespace Go.Proofs.YtpchncpcckfghaaGreat
open Go.RowKit Go.WideMaps Go.Maps
set_option linter.unusedVariables false
theorem msi_law : Keyed Tryz.prog 9 := string_keyed Tryz.underlying9
theorem msi_zero (w : World) : (zeroValue 3).run Tryz.prog w = .ok (.int .i64 0) w := by kernel_rfl
def CntM (w : World) (M n : Nat) (cnt : ByteArray → Nat) : Prop :=
  ∃ D : DataW Unit, w.ownsMap Tryz.prog 9 (plainElem Tryz.prog 3) M n D ∧ ∀ s : ByteArray, s.size ≤ maxLen → D.atKey (.string s.data.toList) (.lit (.int .i64 0)) = .lit (.int .i64 (cnt s : Int))
theorem CntM.keep {w w' : World} {M n : Nat} {cnt : ByteArray → Nat} (h : CntM w M n cnt) (hb : w'.heap[M]? = w.heap[M]?) : CntM w' M n cnt := by
  obtain ⟨D, ⟨es, clock, h1, h2⟩, h3⟩ := h
  exact ⟨D, ⟨es, clock, hb.trans h1, h2⟩, h3⟩
theorem CntM.lt {w : World} {M n : Nat} {cnt : ByteArray → Nat} (h : CntM w M n cnt) : M < w.heap.size := by
  obtain ⟨D, h1, _⟩ := h
  exact h1.lt
theorem CntM.belowE {w w' : World} {M n : Nat} {cnt : ByteArray → Nat} {X : List Nat} (h : CntM w M n cnt) (hb : BelowE X w.heap.size w w') (hX : M ∉ X) : CntM w' M n cnt := h.keep (hb.block M h.lt hX)
theorem CntM.below {w w' : World} {M n : Nat} {cnt : ByteArray → Nat} (h : CntM w M n cnt) (hb : Below w.heap.size w w') : CntM w' M n cnt := h.keep (hb.block M h.lt)
theorem CntM.new (w : World) : CntM (w.alloc (.map #[] 0)) w.heap.size 0 (fun _ => 0) := ⟨_, World.ownsMap_made w _ _ _, fun s _ => rfl⟩
theorem CntM.look {w : World} {M n : Nat} {cnt : ByteArray → Nat} (h : CntM w M n cnt) (s : ByteArray) (hs : s.size ≤ maxLen) : (Instr.lookup 107 (.map (some M)) (.string s) false).run Tryz.prog w = .ok (.int .i64 (cnt s : Int)) w := by
  obtain ⟨D, h1, h2⟩ := h
  obtain ⟨c, hrun, hat, _⟩ := h1.lookup_int msi_law Tryz.underlying107 Tryz.underlying3 (msi_zero _) (keyOf_string_mk Tryz.underlying9 hs)
  rw [h2 s hs] at hat
  simp only [DataW.lit.injEq, Lit.int.injEq, true_and] at hat
  rw [hat]
  exact hrun
theorem data_inj {s t : ByteArray} (h : s.data.toList = t.data.toList) : s = t := ByteArray.ext (Array.ext' h)
theorem CntM.add {w : World} {M n : Nat} {cnt : ByteArray → Nat} (h : CntM w M n cnt) (s : ByteArray) (hs : s.size ≤ maxLen) (hn : n < maxLen) (hc : (cnt s : Int) < 9223372036854775807) :
    ∃ w', (Instr.mapUpdate 107 (.map (some M)) (.string s) (.int .i64 ((cnt s : Int) + 1))).run Tryz.prog w = .ok () w' ∧ CntM w' M (n + 1) (fun x => if x = s then cnt s + 1 else cnt x) ∧ BelowE [M] w.heap.size w w' := by
  obtain ⟨D, h1, h2⟩ := h
  have hD := h1.isMap
  obtain ⟨w', hrun, hown, hg⟩ := h1.update (key := .string s) (val := .int .i64 ((cnt s : Int) + 1)) (ps := []) msi_law Tryz.underlying107 hn (keyOf_string_mk Tryz.underlying9 hs) (plainElem_int (q := .i64) (a := (cnt s : Int) + 1) Tryz.underlying3 (by simp [Lit.wf, IntKind.min, IntKind.max, IntKind.signed, IntKind.bits]; omega))
  refine ⟨w', hrun, ⟨_, hown, fun t ht => ?_⟩, ⟨hg.os, hg.tape, hg.output, hg.size, fun k hk hx => hg.block k hk (by intro e; injection e with e; exact hx (by simp [e]))⟩⟩
  show _ = DataW.lit (.int .i64 ((if t = s then cnt s + 1 else cnt t : Nat) : Int))
  by_cases e : t = s
  · subst e
    rw [if_pos rfl, atKey_put_same hD (by exact trivial)]
    rfl
  · rw [if_neg e, atKey_put_other (by intro h; injection h with h; exact e (data_inj h)), h2 t ht]
end Go.Proofs.YtpchncpcckfghaaGreat
namespace Go.Proofs.YtpchncpcckfghaaGreat
set_option linter.unusedVariables false
set_option linter.unusedSimpArgs false
def upF (n k : Nat) : List Int := (List.range n).map fun i => if i < k then (i : Int) else 0
theorem upF_len (n k : Nat) : (upF n k).length = n := by simp [upF]
theorem upF_zero (n : Nat) : upF n 0 = List.replicate n 0 := by
  apply List.ext_getElem
  · simp [upF]
  · intro i a b; simp [upF]
theorem upF_set (n k : Nat) : (upF n k).set k (k : Int) = upF n (k + 1) := by
  apply List.ext_getElem
  · simp [upF]
  · intro i a b
    rw [List.getElem_set]
    simp only [upF, List.getElem_map, List.getElem_range]
    by_cases e : k = i
    · subst e; simp
    · rw [if_neg e]
      by_cases h : i < k
      · rw [if_pos h, if_pos (by omega)]
      · rw [if_neg h, if_neg (by omega)]
theorem upF_at {n j : Nat} (h : j < n) : (upF n n).getD j 0 = (j : Int) := by simp [upF, List.getD, h]
def outF (V : Nat → Int) (S : List Nat) (n t : Nat) : List Int := (List.range n).map fun i => if i ∈ S.take t then V i else 0
theorem outF_len (V : Nat → Int) (S : List Nat) (n t : Nat) : (outF V S n t).length = n := by simp [outF]
theorem outF_zero (V : Nat → Int) (S : List Nat) (n : Nat) : outF V S n 0 = List.replicate n 0 := by
  apply List.ext_getElem
  · simp [outF]
  · intro i a b; simp [outF]
theorem outF_set (V : Nat → Int) (S : List Nat) (n t : Nat) (ht : t < S.length) : (outF V S n t).set (S.getD t 0) (V (S.getD t 0)) = outF V S n (t + 1) := by
  have e : S.take (t + 1) = S.take t ++ [S.getD t 0] := by rw [List.take_add_one]; simp [List.getD, ht]
  apply List.ext_getElem
  · simp [outF]
  · intro i a b
    rw [List.getElem_set]
    simp only [outF, List.getElem_map, List.getElem_range, e, List.mem_append, List.mem_singleton]
    by_cases h : S.getD t 0 = i
    · rw [if_pos h, if_pos (.inr h.symm), h]
    · rw [if_neg h]
      by_cases h2 : i ∈ S.take t
      · rw [if_pos h2, if_pos (.inl h2)]
      · rw [if_neg h2, if_neg (by rintro (h3 | h3); exact h2 h3; exact h h3.symm)]
theorem outF_all (V : Nat → Int) (S : List Nat) (n : Nat) (hl : S.length ≤ n) (h : ∀ i, i < n → i ∈ S) : outF V S n n = (List.range n).map V := by
  unfold outF
  apply List.map_congr_left
  intro i hi
  rw [List.take_of_length_le hl, if_pos (h i (by simpa using hi))]
def cntF (l : List AlD) (S : List Nat) (t : Nat) (s : ByteArray) : Nat := (S.take t).countP fun j => decide (strOfNums (keyA (l.getD j al0)) = s)
theorem cntF_zero (l : List AlD) (S : List Nat) : cntF l S 0 = fun _ => 0 := by funext s; simp [cntF]
theorem cntF_step (l : List AlD) (S : List Nat) (t : Nat) (ht : t < S.length) : (fun x => if x = strOfNums (keyA (l.getD (S.getD t 0) al0)) then cntF l S t (strOfNums (keyA (l.getD (S.getD t 0) al0))) + 1 else cntF l S t x) = cntF l S (t + 1) := by
  have e : S.take (t + 1) = S.take t ++ [S.getD t 0] := by rw [List.take_add_one]; simp [List.getD, ht]
  funext x
  unfold cntF
  rw [e, List.countP_append]
  by_cases h : x = strOfNums (keyA (l.getD (S.getD t 0) al0))
  · rw [if_pos h, ← h]
    rw [List.countP_cons, List.countP_nil, decide_eq_true h.symm]
    simp
  · rw [if_neg h, List.countP_cons, List.countP_nil, decide_eq_false (fun h2 => h h2.symm)]
    simp
theorem keyA_bs0 (a : AlD) : Bs (keyA a) := by
  unfold keyA keyL
  intro c hc
  simp only [List.mem_append] at hc
  rcases hc with hc | (hc | hc) | hc | hc
  · exact leb_bytes _ c hc
  · exact leb_bytes _ c hc
  · exact codes_bs a.fn c hc
  · exact leb_bytes _ c hc
  · exact normS_bs (codes_bs _) c hc
theorem cntF_rank (l : List AlD) {t : Nat} (ht : t < l.length) : cntF l (placesF l al0 l.length) t (strOfNums (keyA (l.getD ((placesF l al0 l.length).getD t 0) al0))) = rankA l ((placesF l al0 l.length).getD t 0) := by
  unfold rankA
  rw [places_rank keyA l al0 ht]
  unfold cntF
  apply List.countP_congr
  intro j _
  simp only [decide_eq_true_eq]
  exact ⟨fun h => strOfNums_inj (keyA_bs0 _) (keyA_bs0 _) h, fun h => by rw [h]⟩
end Go.Proofs.YtpchncpcckfghaaGreat
namespace Go.Proofs.YtpchncpcckfghaaGreat
open Go.RowKit
set_option linter.unusedVariables false
set_option linter.unusedSimpArgs false
theorem infoInt' : (Tryz.prog.info? 3).map (fun i => (i.zero, i.size, i.bytes)) = some (some (.int .i64 0), 1, 8) := by kernel_rfl
theorem infoU64 : (Tryz.prog.info? 36).map (fun i => (i.zero, i.size, i.bytes)) = some (some (.int .u64 0), 1, 8) := by kernel_rfl
theorem mk_ints (n : Nat) (hn : n ≤ 1000000) (W : World) : (Instr.makeSlice 103 (.int .i64 n) (.int .i64 n)).run Tryz.prog W = .ok (.slice (some ⟨W.heap.size, 0, none⟩) n n) (W.alloc (.cells (nums .i64 (List.replicate n 0)).toArray 3)) := by
  obtain ⟨i0, hi, hz0, hz1, hz2⟩ := info_parts infoInt'
  have h := run_make (P := Tryz.prog) W 103 3 i0 (.int .i64 0) Tryz.underlying103 hi hz0 .i64 .i64 (n : Int) (n : Int) (by omega) (by omega) (by rw [hz2]; omega) (by omega)
  rw [hz1] at h
  simp only [Int.toNat_natCast] at h
  rw [h, ← made_zero .i64 n]
theorem mk_u64s (n : Nat) (hn : n ≤ 1000000) (W : World) : (Instr.makeSlice 55 (.int .i64 n) (.int .i64 n)).run Tryz.prog W = .ok (.slice (some ⟨W.heap.size, 0, none⟩) n n) (W.alloc (.cells (nums .u64 (List.replicate n 0)).toArray 36)) := by
  obtain ⟨i0, hi, hz0, hz1, hz2⟩ := info_parts infoU64
  have h := run_make (P := Tryz.prog) W 55 36 i0 (.int .u64 0) Tryz.underlying55 hi hz0 .i64 .i64 (n : Int) (n : Int) (by omega) (by omega) (by rw [hz2]; omega) (by omega)
  rw [hz1] at h
  simp only [Int.toNat_natCast] at h
  rw [h, ← made_zero .u64 n]
set_option maxRecDepth 100000 in
set_option maxHeartbeats 4000000 in
theorem feach_of (l : List AlD) (a : Option Addr) (n c : Nat) (w0 w : World) (h0 : RO alC w0 a n c l) (hbw : Below w0.heap.size w0 w) (hW : ∀ s ∈ l, alW s) (hS : ∀ s ∈ l, smallA s) (hn : n ≤ 100) (Bo go co : Nat) (hbox : w.cell? ⟨Bo, 0, none⟩ = some (.slice (some ⟨go, 0, none⟩) n co)) (hBo : Bo < w.heap.size) (hne : Bo ≠ go) (hgo0 : w0.heap.size ≤ go) (hrow : Holds w go 36 (nums .u64 (List.replicate n 0)).toArray) :
    Calls Tryz.prog 53 #[.slice a n c, .func (.func 54) #[] #[.pointer (some ⟨Bo, 0, none⟩)]] w fun e w' => e = .returned (.tuple #[]) ∧ BelowE [go] w.heap.size w w' ∧ Holds w' go 36 (nums .u64 ((List.range n).map (fun i => oneK (keyA (l.getD i al0)) (rankA l i)))).toArray := by
  have hmk := mk_ints n (by omega)
  have hmm := @run_makeMap Tryz.prog
  have hlen := h0.len
  have hgo := hrow.lt
  have hsl : (placesF l al0 n).length = n := places_len l al0 n
  have hrk : ∀ t, t < n → cntF l (placesF l al0 n) t (strOfNums (keyA (l.getD ((placesF l al0 n).getD t 0) al0))) = rankA l ((placesF l al0 n).getD t 0) := fun t ht => by
    have q := cntF_rank l (t := t) (by omega)
    rw [← hlen] at q
    exact q
  have hrk' := Lib.hid hrk
  have hrl := Lib.hid (fun i => rank_le l i)
  obtain ⟨u2, hu2⟩ : ∃ u2, u2 = (w.alloc (.cells #[.slice a n c] 23)).alloc (.cells (nums .i64 (List.replicate n 0)).toArray 3) := ⟨_, rfl⟩
  have b2 : Below w.heap.size w u2 := by rw [hu2]; exact box2_below _ _ _ _ _
  have s2 : u2.heap.size = w.heap.size + 2 := by rw [hu2]; simp
  have Z1 : Hid (Holds u2 w.heap.size 23 #[.slice a n c]) := Lib.hid (by rw [hu2]; exact (Holds.new w _ _).alloc _)
  have Z2 : Hid (Holds u2 (w.heap.size + 1) 3 (nums .i64 (upF n 0)).toArray) := Lib.hid (by rw [hu2, upF_zero]; have q := Holds.new (w.alloc (.cells #[.slice a n c] 23)) 3 (nums .i64 (List.replicate n 0)).toArray; simpa using q)
  have ZO : Hid (Holds u2 go 36 (nums .u64 (List.replicate n 0)).toArray) := Lib.hid (hrow.below b2 hgo)
  have yo : Hid (u2.cell? ⟨Bo, 0, none⟩ = some (.slice (some ⟨go, 0, none⟩) n co)) := Lib.hid ((b2.cell (p := ⟨Bo, 0, none⟩) hBo).trans hbox)
  have hb2 : Hid (Below w0.heap.size w0 u2) := Lib.hid (hbw.trans (b2.mono hbw.size))
  have hgw : w0.heap.size ≤ w.heap.size := hbw.size
  have hu2' := Lib.hid hu2
  have b2' := Lib.hid b2
  have hm : (n : Int) ≤ 9223372036854775807 := by omega
  have hni : (n : Int) ≤ 100 := by omega
  have hRO := Lib.hid h0
  have hW' : Hid (∀ i, i < n → alW (l.getD i al0) ∧ smallA (l.getD i al0)) := Lib.hid (fun i hi => by
    have q : l.getD i al0 ∈ l := (by rw [hlen] at hi; simp [List.getD, hi])
    exact ⟨hW _ q, hS _ q⟩)
  have hlen' := Lib.hid hlen
  have hsl' := Lib.hid hsl
  have s2' := Lib.hid s2
  clear hu2 b2 h0 hbw hrow hbox hW hS hlen hsl s2 hrk
  go_enter Tryz.func53, Tryz.ntmps53
  go_wp2
  rw [← hu2'.out]
  clear hu2' hmk
  go_loopw [15] (fun x wr => ∃ k : Nat, k ≤ n ∧ x = .int .i64 k ∧ Hid (Holds wr (w.heap.size + 1) 3 (nums .i64 (upF n k)).toArray) ∧ Hid (BelowE [w.heap.size + 1] u2.heap.size u2 wr)) (fun x _ => n - (intOf x).toNat)
  case atStart => exact ⟨0, Nat.zero_le _, rfl, Z2, Lib.hid (BelowE.refl _ _ _)⟩
  case round =>
    obtain ⟨k, hk, rfl, hH, hB⟩ := hrel
    by_cases hlt : k < n
    · have hki : (k : Int) < (n : Int) := by omega
      have x0 := (hH.out.cell k).trans (nums_getD (by rw [upF_len]; exact hlt))
      have x1 := hH.out.free k
      have hs := hH.out.set k (.int .i64 (k : Int))
      rw [nums_set, upF_set] at hs
      have hs' := Lib.hid hs
      have hB' := Lib.hid (hB.out.setIn (p := ⟨w.heap.size + 1, k, none⟩) (by simp) (.int .i64 (k : Int)))
      clear hs hH hB
      generalize (upF n k).getD k 0 = ov at *
      go_wp2
      go_roundw
      case rel => exact ⟨k + 1, by omega, by go_num, hs', hB'⟩
      case measure => simp [intOf]; omega
    · obtain rfl : k = n := by omega
      have hki : ¬ (k : Int) < (k : Int) := by omega
      generalize wr = u3 at *
      have b3 : Hid (Below w0.heap.size w0 u3) := Lib.hid (hb2.out.trans ((hB.out.mono (B' := w0.heap.size) (by have := s2'.out; omega)).toBelow (by intro x hx; simp at hx; omega)))
      have Y1 : Hid (Holds u3 w.heap.size 23 #[.slice a k c]) := Lib.hid (Z1.out.belowE hB.out (by have := s2'.out; omega) (by simp))
      have YO : Hid (Holds u3 go 36 (nums .u64 (List.replicate k 0)).toArray) := Lib.hid (ZO.out.belowE hB.out (by have := s2'.out; omega) (by simp; omega))
      have yo3 : Hid (u3.cell? ⟨Bo, 0, none⟩ = some (.slice (some ⟨go, 0, none⟩) k co)) := Lib.hid ((hB.out.cell (p := ⟨Bo, 0, none⟩) (by have := s2'.out; show Bo < _; omega) (by simp; omega)).trans yo.out)
      have s3 : u2.heap.size ≤ u3.heap.size := hB.out.size
      have bw3 : Hid (Below w.heap.size w u3) := Lib.hid (b2'.out.trans ((hB.out.mono (B' := w.heap.size) (by have := s2'.out; omega)).toBelow (by intro x hx; simp at hx; omega)))
      have qs := Lib.hid (fsort_any l a k c (w.heap.size + 1) w.heap.size w0 u3 hRO.out b3.out (by omega) (by have := s2'.out; omega) (by have := s2'.out; omega) (by omega) (Y1.out.cell 0) (fun j hj => ⟨by rw [hH.out.cell j, nums_getD (by rw [upF_len]; exact hj), upF_at hj], hH.out.free j⟩) (by omega))
      have hs3 := Lib.hid s3
      clear s3 hH hB Z1 Z2 ZO yo hb2 b2'
      go_wp2_with fail
      with_reducible refine qs.out.mono ?_
      rintro e u4 ⟨rfl, e4, c4⟩
      have E4 := Lib.hid e4
      have C4 := Lib.hid c4
      clear e4 c4 qs hki
      obtain ⟨u5, hu5⟩ : ∃ u5, u5 = u4.alloc (.map #[] 0) := ⟨_, rfl⟩
      have M5 : Hid (CntM u5 u4.heap.size 0 (cntF l (placesF l al0 k) 0)) := Lib.hid (by rw [hu5, cntF_zero]; exact CntM.new u4)
      have b5 : Below u4.heap.size u4 u5 := by rw [hu5]; exact (Below.refl _ _).alloc (Nat.le_refl _) _
      have E5 : Hid (BelowE [w.heap.size + 1] u3.heap.size u3 u5) := Lib.hid (E4.out.trans (.of (b5.mono E4.out.size)))
      have s5 : Hid (u3.heap.size ≤ u4.heap.size ∧ u5.heap.size = u4.heap.size + 1) := Lib.hid ⟨E4.out.size, by rw [hu5]; simp⟩
      have X1 : Hid (Holds u5 w.heap.size 23 #[.slice a k c]) := Lib.hid (Y1.out.belowE E5.out Y1.out.lt (by simp))
      have XO : Hid (Holds u5 go 36 (nums .u64 (outF (fun i => oneK (keyA (l.getD i al0)) (rankA l i)) (placesF l al0 k) k 0)).toArray) := Lib.hid (by rw [outF_zero]; exact YO.out.belowE E5.out YO.out.lt (by simp; omega))
      have yo5 : Hid (u5.cell? ⟨Bo, 0, none⟩ = some (.slice (some ⟨go, 0, none⟩) k co)) := Lib.hid ((E5.out.cell (p := ⟨Bo, 0, none⟩) (by have := s2'.out; have := hs3.out; show Bo < _; omega) (by simp; omega)).trans yo3.out)
      have C5 : Hid (∀ j, j < k → u5.cell? ⟨w.heap.size + 1, j, none⟩ = some (.int .i64 ((placesF l al0 k).getD j 0 : Nat))) := Lib.hid (fun j hj => (b5.cell (p := ⟨w.heap.size + 1, j, none⟩) (by have := s2'.out; have := hs3.out; have := s5.out; show w.heap.size + 1 < _; omega)).trans (C4.out j hj))
      have b50 : Hid (Below w0.heap.size w0 u5) := Lib.hid (b3.out.trans ((E5.out.mono (B' := w0.heap.size) (by have := s2'.out; have := hs3.out; omega)).toBelow (by intro x hx; simp at hx; omega)))
      have bw5 : Hid (Below w.heap.size w u5) := Lib.hid (bw3.out.trans ((E5.out.mono (B' := w.heap.size) (by have := s2'.out; have := hs3.out; omega)).toBelow (by intro x hx; simp at hx; omega)))
      have hgo5 : Hid (Bo < u4.heap.size ∧ go < u4.heap.size ∧ w.heap.size + 1 < u4.heap.size ∧ u5.heap.size = u4.heap.size + 1) := Lib.hid (by have := s2'.out; have := hs3.out; have := s5.out; exact ⟨by omega, by omega, by omega, this.2⟩)
      have hu5' := Lib.hid hu5
      clear hu5 b5 E4 C4 Y1 YO yo3 b3 bw3 E5 s5 hs3 s2'
      go_wp2
      rw [← hu5'.out]
      clear hu5' hmm
      generalize u4.heap.size = M at *
      go_loopw [29] (fun x wr => ∃ t : Nat, t ≤ k ∧ x = .int .i64 t ∧ Hid (CntM wr M t (cntF l (placesF l al0 k) t)) ∧ Hid (Holds wr go 36 (nums .u64 (outF (fun i => oneK (keyA (l.getD i al0)) (rankA l i)) (placesF l al0 k) k t)).toArray) ∧ Hid (BelowE [go, M] u5.heap.size u5 wr)) (fun x _ => k - (intOf x).toNat)
      case atStart => exact ⟨0, Nat.zero_le _, rfl, M5, XO, Lib.hid (BelowE.refl _ _ _)⟩
      case round =>
        obtain ⟨t, ht, rfl, hM, hO, hE⟩ := hrel
        clear M5 XO
        generalize wr = u6 at *
        by_cases htk : t < k
        · have hti : (t : Int) < (k : Int) := by omega
          have xg := (hE.out.cell (p := ⟨w.heap.size + 1, t, none⟩) (by have := hgo5.out; show w.heap.size + 1 < _; omega) (by have := hgo5.out; simp; omega)).trans (C5.out t htk)
          have hil := places_lt l al0 k htk
          have hX := X1.out.belowE hE.out X1.out.lt (by have := hgo5.out; simp; omega)
          have xb := hX.cell 0
          simp at xb
          have hR6 := hRO.out.below (b50.out.trans ((hE.out.mono b50.out.size).toBelow (by intro x hx; have := hgo5.out; simp at hx; omega)))
          have hbo := Lib.hid ((hE.out.cell (p := ⟨Bo, 0, none⟩) (by have := hgo5.out; show Bo < _; omega) (by have := hgo5.out; simp; omega)).trans yo5.out)
          have hcr := hrk'.out t htk
          have hlast := Lib.hid (outF_set (fun i => oneK (keyA (l.getD i al0)) (rankA l i)) (placesF l al0 k) k t (by rw [hsl'.out]; exact htk))
          have hstep := Lib.hid (cntF_step l (placesF l al0 k) t (by rw [hsl'.out]; exact htk))
          have hrb := hrl.out ((placesF l al0 k).getD t 0)
          rw [hcr] at hstep
          generalize (placesF l al0 k).getD t 0 = i at *
          have hii : (i : Int) < (k : Int) := by omega
          obtain ⟨b, off, rfl, hlb, y0, y1, y2, y3, y4, y5⟩ := al_at hR6 hil
          obtain ⟨⟨wk, -⟩, hsm⟩ := hW'.out i hil
          have qk := Lib.hid (fkey_any (l.getD i al0) wk hsm u6)
          have hkl := keyA_len (l.getD i al0) wk hsm
          have hsz : (strOfNums (keyA (l.getD i al0))).size ≤ 100000 := by rw [strOfNums_size]; exact hkl
          have hr100 : rankA l i ≤ 100 := by have := hlen'.out; omega
          have qsh := Lib.hid (fun (sK : ByteArray) (hK : sK = strOfNums (keyA (l.getD i al0))) (r : Nat) (hr : r ≤ 9223372036854775807) (W : World) (out : List Int) (hbox : W.cell? ⟨Bo, 0, none⟩ = some (.slice (some ⟨go, 0, none⟩) k co)) (hBo : Bo < W.heap.size) (hrow : Holds W go 36 (nums .u64 out).toArray) (hn : k = out.length) => (show Calls Tryz.prog 54 #[.int .i64 i, .int .i64 r, .string sK, .pointer (some ⟨Bo, 0, none⟩)] W fun e w' => e = .returned (.tuple #[]) ∧ BelowE [go] W.heap.size W w' ∧ Holds w' go 36 (nums .u64 (out.set i (oneK (keyA (l.getD i al0)) r))).toArray from by subst hK; exact fof1_any Bo go k co i r (keyA (l.getD i al0)) (keyA_bs _) hkl out W hbox hBo hne hrow hn (by omega) hil hr))
          have qrow : Hid (k = (outF (fun i => oneK (keyA (l.getD i al0)) (rankA l i)) (placesF l al0 k) k t).length) := Lib.hid (outF_len _ _ _ _).symm
          obtain ⟨sK, hsK⟩ : ∃ sK, sK = strOfNums (keyA (l.getD i al0)) := ⟨_, rfl⟩
          obtain ⟨r, hr⟩ : ∃ r, r = rankA l i := ⟨_, rfl⟩
          have hqsh := Lib.hid (qsh.out sK hsK r (by omega))
          rw [← hsK] at hcr hstep hsz
          rw [← hr] at hcr hstep hr100
          try dsimp only at hlast
          rw [← hr] at hlast
          have hcv := Lib.hid (fun (A : Option Addr) (C : Nat) (V : World) (s : Sees .u8 V.heap.size V A (keyA (l.getD i al0))) => conv_sees (P := Tryz.prog) 82 9 5 Tryz.underlying82 Tryz.underlying5 Tryz.underlying9 s _ C rfl)
          rw [← hsK] at hcv
          have hcr' := Lib.hid hcr
          clear hX hR6 hsm wk qsh hkl hrb hsK hr hcr
          generalize keyA (l.getD i al0) = KA at *
          generalize l.getD i al0 = AL at *
          generalize outF (fun i => oneK (keyA (l.getD i al0)) (rankA l i)) (placesF l al0 k) k t = OUT at *
          obtain ⟨ak, asv, af, afi, al, ax⟩ := AL
          dsimp only at qk y0 y1 y2 y3 y4 y5
          go_wp2_with fail
          with_reducible refine qk.out.mono ?_
          rintro e u7 h7
          obtain ⟨a7, c7, rfl, s7, b7⟩ := h7.open _ rfl
          have hcv7 := hcv.out a7 c7 u7 s7
          have hM7 := Lib.hid (hM.out.below b7)
          have hlk := hM7.out.look sK (by unfold maxLen; omega)
          rw [hcr'.out] at hlk
          have hO7 := Lib.hid (hO.out.below b7 hO.out.lt)
          have hbo7 := Lib.hid ((b7.cell (p := ⟨Bo, 0, none⟩) (by have := hE.out.size; have := hgo5.out; show Bo < _; omega)).trans hbo.out)
          have hE7 := Lib.hid (hE.out.trans (.of (b7.mono hE.out.size)))
          have q7 := Lib.hid (hqsh.out u7 OUT hbo7.out (by have := hE7.out.size; have := hgo5.out; show Bo < _; omega) hO7.out qrow.out)
          clear h7 qk hcv s7 b7 hM hO hbo hE xg xb y0 y1 y2 y3 y4 y5 hqsh hlb
          go_wp2_with fail
          with_reducible refine q7.out.mono ?_
          rintro e u8 ⟨rfl, e8, z8⟩
          have hM8 := Lib.hid (hM7.out.belowE e8 (by have := hgo5.out; simp; omega))
          have hlk8 := hM8.out.look sK (by unfold maxLen; omega)
          rw [hcr'.out] at hlk8
          obtain ⟨u9, hup, hM9, e9⟩ := hM8.out.add sK (by unfold maxLen; omega) (by unfold maxLen; omega) (by rw [hcr'.out]; omega)
          rw [hcr'.out] at hup hM9
          rw [hstep.out] at hM9
          rw [hlast.out] at z8
          have hM9' := Lib.hid hM9
          have z9 := Lib.hid (z8.belowE e9 z8.lt (by have := hgo5.out; simp; omega))
          have e9' := Lib.hid ((hE7.out.trans ((e8.mono hE7.out.size).wider (by simp))).trans ((e9.mono (Nat.le_trans hE7.out.size e8.size)).wider (by simp)))
          have hri : (r : Int) ≤ 100 := by omega
          clear hM9 z8 e8 e9 hM8 hM7 hO7 hbo7 hE7 q7 hlk hcv7 hstep hlast hcr' hsz
          go_wp2
          go_roundw
          case rel => exact ⟨t + 1, by omega, by go_num, hM9', z9, e9'⟩
          case measure => simp [intOf]; omega
        · obtain rfl : t = k := by omega
          have hti : ¬ (t : Int) < (t : Int) := by omega
          have hz := hO.out
          rw [outF_all _ _ _ (by rw [hsl'.out]; exact Nat.le_refl _) (fun i hi => by
            obtain ⟨s, hs, e⟩ := places_at l al0 t hi
            have := hsl'.out
            rw [← e]
            simp [List.getD, this, hs])] at hz
          have hz' := Lib.hid hz
          have hf := Lib.hid ((BelowE.of bw5.out (X := [go])).trans ((hE.out.mono bw5.out.size).less (by intro x hx hlt; have := hgo5.out; simp at hx ⊢; omega)))
          clear hz hO hE hM C5
          go_wp2
          go_end0
          exact ⟨rfl, hf.out, hz'.out⟩
end Go.Proofs.YtpchncpcckfghaaGreat
namespace Go.Proofs.YtpchncpcckfghaaGreat
open Go.RowKit
set_option linter.unusedVariables false
set_option linter.unusedSimpArgs false
theorem made_holds {w w' : World} {e : TypeId} {k : IntKind} {g n : Nat} {l : List Int} (h : Holds w' g e (nums k l).toArray) (hn : n = l.length) (hm : n ≤ maxLen) (hg : w.heap.size ≤ g) (hb : Below w.heap.size w w') : Made e k w l (.returned (.slice (some ⟨g, 0, none⟩) n n)) w' := by
  subst hn
  exact ⟨_, rfl, ⟨by simp [nums], .inr ⟨g, l.length, (nums k l).toArray, rfl, hg, h, Nat.le_refl _, hm, by simp [nums], by rw [List.take_of_length_le (by simp [nums])]⟩⟩, hb⟩
set_option maxRecDepth 100000 in
set_option maxHeartbeats 2000000 in
theorem fofs_any (l : List AlD) (a : Option Addr) (n c : Nat) (w : World) (h0 : RO alC w a n c l) (hW : ∀ s ∈ l, alW s) (hS : ∀ s ∈ l, smallA s) (hn : n ≤ 100) :
    Calls Tryz.prog 30 #[.slice a n c] w (Made 36 .u64 w ((List.range n).map (fun i => oneK (keyA (l.getD i al0)) (rankA l i)))) := by
  have hmk := mk_u64s n (by omega)
  obtain ⟨u2, hu2⟩ : ∃ u2, u2 = (w.alloc (.cells (nums .u64 (List.replicate n 0)).toArray 36)).alloc (.cells #[.slice (some ⟨w.heap.size, 0, none⟩) n n] 55) := ⟨_, rfl⟩
  have b2 : Below w.heap.size w u2 := by rw [hu2]; exact box2_below _ _ _ _ _
  have s2 : u2.heap.size = w.heap.size + 2 := by rw [hu2]; simp
  have Z1 : Holds u2 w.heap.size 36 (nums .u64 (List.replicate n 0)).toArray := by rw [hu2]; exact (Holds.new w _ _).alloc _
  have Z2 : Holds u2 (w.heap.size + 1) 55 #[.slice (some ⟨w.heap.size, 0, none⟩) n n] := by rw [hu2]; have q := Holds.new (w.alloc (.cells (nums .u64 (List.replicate n 0)).toArray 36)) 55 #[.slice (some ⟨w.heap.size, 0, none⟩) n n]; simpa using q
  have qe := Lib.hid (feach_of l a n c w u2 h0 b2 hW hS hn (w.heap.size + 1) w.heap.size n (Z2.cell 0) (by omega) (by omega) (Nat.le_refl _) Z1)
  have hm : (n : Int) ≤ 9223372036854775807 := by omega
  have hu2' := Lib.hid hu2
  have b2' := Lib.hid b2
  have s2' := Lib.hid s2
  have Z2' := Lib.hid Z2
  have hlen : Hid (n = ((List.range n).map (fun i => oneK (keyA (l.getD i al0)) (rankA l i))).length) := Lib.hid (by simp)
  clear hu2 b2 s2 Z1 Z2 h0 hW hS
  generalize (List.range n).map (fun i => oneK (keyA (l.getD i al0)) (rankA l i)) = R at *
  go_enter Tryz.func30, Tryz.ntmps30
  go_wp2_with fail
  rw [← hu2'.out]
  with_reducible refine qe.out.mono ?_
  rintro e u3 ⟨rfl, e3, z3⟩
  have z3' := Lib.hid z3
  have zb := (Z2'.out.belowE e3 Z2'.out.lt (by simp)).cell 0
  simp at zb
  have hB := Lib.hid (b2'.out.trans ((e3.mono (B' := w.heap.size) (by have := s2'.out; omega)).toBelow (by intro x hx; simp at hx; omega)))
  clear z3 e3 qe hu2' hmk Z2' b2' s2'
  go_wp2
  go_ret
  exact made_holds z3'.out hlen.out (by unfold maxLen; omega) (Nat.le_refl _) hB.out
theorem fing_is (l : List AlD) {n : Nat} (hn : n = l.length) : (List.range n).map (fun i => oneK (keyA (l.getD i al0)) (rankA l i)) = fingA l := by
  subst hn
  rfl
end Go.Proofs.YtpchncpcckfghaaGreat
namespace Go.Proofs.YtpchncpcckfghaaGreat
open Go.RowKit
set_option linter.unusedVariables false
set_option linter.unusedSimpArgs false
def printsL (A : List AlD) (n : Nat) : List Int := (List.range n).map (fun i => oneK (keyA (A.getD i al0)) (rankA A i))
def splitD (l : List MkD) (A : List AlD) (ps : List Int) : SpD :=
  ⟨partL al0 (fun k => hasB l (ps.getD k 0)) true A A.length, partL al0 (fun k => hasB l (ps.getD k 0)) false A A.length, partL mk0 (fun k => decide ((l.getD k mk0).f ∈ ps)) true l l.length, partL mk0 (fun k => decide ((l.getD k mk0).f ∈ ps)) false l l.length⟩
def SpG (w : World) (d : SpD) (err : Int) (e : Ending) (w' : World) : Prop := ∃ v : SpV, e = .returned (.tuple #[.agg v.cells, .int .i64 err]) ∧ SpR w' v d ∧ Below w.heap.size w w'
theorem info_sp : (Tryz.prog.info? 28).map (·.size) = some 4 := by kernel_rfl
theorem sp_ret2 {Q : Ending → World → Prop} {w : World} {g : Nat} {a1 a2 a3 a4 u : Value} (hg : Holds w g 28 #[a1, a2, a3, a4]) (hQ : Q (.returned (.tuple #[.agg #[a1, a2, a3, a4], u])) w) (act : Act) (f : Func) (n m : Nat) (hf : f.results = #[.cell n 28, .tmp m]) (ha : act.tmps.getD n undef = .pointer (some ⟨g, 0, none⟩)) (hm : act.tmps.getD m undef = u) (hd : act.defers = []) :
    bodyPost Tryz.prog f Q Exit.ret act w := by
  refine bodyPost_ret (v := .tuple #[.agg #[a1, a2, a3, a4], u]) ?_ hd hQ
  rw [results_cell_tmp hf, ha, hm]
  simp [asAddr, run_loadVar_row w g 28 28 #[a1, a2, a3, a4] (0, 0) _ hg Tryz.underlying28 rfl (by rw [info_sp]; rfl), Result.andThen]
theorem prints_len (A : List AlD) (n : Nat) : (printsL A n).length = n := by simp [printsL]
set_option maxRecDepth 100000 in
set_option maxHeartbeats 8000000 in
theorem bmatch_ok (w : World) (a1 a2 : Option Addr) (n1 n2 c1 c2 : Nat) (l : List MkD) (A : List AlD) (hb : baseB l = true) (h1 : RO mkC w a1 n1 c1 l) (h2 : RO alC w a2 n2 c2 A) (hW : ∀ s ∈ A, alW s) (hS : ∀ s ∈ A, smallA s) (hn : n2 ≤ 100) (hP : PdqOK n2) :
    Calls Tryz.prog 11 #[.slice a1 n1 c1, .slice a2 n2 c2] w (SpG w (splitD l A (printsL A n2)) 0) := by
  have hpl := prints_len A n2
  have l1 := baseB_len hb
  have m1 := h1.len
  have m2 := h2.len
  have R1 := Lib.hid (fun W hW => h1.below (w' := W) hW)
  have R2 := Lib.hid (fun W hW => h2.below (w' := W) hW)
  have q0 := Lib.hid (fun W hW => by have := bbase_any W a1 n1 c1 l (h1.below hW); rw [bchk_yes hb] at this; exact this)
  have qf := Lib.hid (fun W hB => fofs_any A a2 n2 c2 W (h2.below hB) hW hS hn)
  have qs := Lib.hid (fun Bs cap a W hBs hBl hz => sorted_any Bs n2 cap a (printsL A n2) hpl.symm (by omega) hP W hBs hBl hz)
  have q1 := Lib.hid (fun W gl gp ap cp hR hg1 hp hg2 k hk x => match1_any W a1 n1 c1 gl l (by omega) (baseB_rise hb) hR 22 55 hg1 ap n2 cp gp (printsL A n2) hpl.symm hp hg2 (by omega) k hk x)
  obtain ⟨d, hd⟩ : ∃ d, d = splitD l A (printsL A n2) := ⟨_, rfl⟩
  rw [← hd]
  have hd' := Lib.hid hd
  have hp' : Hid (printsL A n2 = (List.range n2).map (fun i => oneK (keyA (A.getD i al0)) (rankA A i))) := Lib.hid rfl
  rw [← hp'.out] at qf
  have hpl' := Lib.hid hpl
  generalize printsL A n2 = ps at *
  obtain ⟨gl, hgl⟩ : ∃ gl, gl = w.heap.size := ⟨_, rfl⟩
  obtain ⟨g4, hg4⟩ : ∃ g4, g4 = w.heap.size + 1 := ⟨_, rfl⟩
  obtain ⟨V0, hV0⟩ : ∃ V, V = (w.alloc (.cells #[.slice a1 n1 c1] 22)).alloc (.cells #[.slice none 0 0, .slice none 0 0, .slice none 0 0, .slice none 0 0] 28) := ⟨_, rfl⟩
  have b0 : Below w.heap.size w V0 := by rw [hV0]; exact box2_below _ _ _ _ _
  have HL0 : Holds V0 gl 22 #[.slice a1 n1 c1] := by rw [hV0, hgl]; exact (Holds.new _ _ _).alloc _
  have H40 : Holds V0 g4 28 #[.slice none 0 0, .slice none 0 0, .slice none 0 0, .slice none 0 0] := by rw [hV0, hg4]; have := Holds.new (w.alloc (.cells #[.slice a1 n1 c1] 22)) 28 #[.slice none 0 0, .slice none 0 0, .slice none 0 0, .slice none 0 0]; rwa [World.size_alloc] at this
  have k0 := HL0.cell 0
  simp at k0
  have hV0' := Lib.hid hV0
  have hgl' := Lib.hid hgl
  have hg4' := Lib.hid hg4
  have HL0' := Lib.hid HL0
  have H40' := Lib.hid H40
  have B0 := Lib.hid b0
  have hm1 := Lib.hid m1
  have hm2 := Lib.hid m2
  have hl1 := Lib.hid l1
  clear hW hS hP hb h1 h2 hd hgl hg4 hV0 HL0 H40 b0 hpl m1 m2 l1
  go_enter Tryz.func11, Tryz.ntmps11
  go_upto_region 1 with (fail)
  rw [← hV0'.out, ← hg4'.out, ← hgl'.out]
  go_wp2_with fail
  refine (q0.out V0 B0.out).mono ?_
  rintro e w1 ⟨rfl, b1⟩
  have HL1 := Lib.hid (HL0'.out.below b1 HL0'.out.lt)
  have H41 := Lib.hid (H40'.out.below b1 H40'.out.lt)
  have B1 := Lib.hid (B0.out.trans (b1.mono B0.out.size))
  clear b1 HL0' H40' B0 q0 k0
  go_wp2_with fail
  refine (qf.out w1 B1.out).mono ?_
  rintro e w2 hm
  obtain ⟨ap, cp, rfl, sp, b2⟩ := hm.open n2 hpl'.out
  have HL2 := HL1.out.below b2 HL1.out.lt
  have H42 := H41.out.below b2 H41.out.lt
  obtain ⟨gp, hgp⟩ : ∃ gp, gp = w2.heap.size := ⟨_, rfl⟩
  obtain ⟨V2, hV2⟩ : ∃ V, V = w2.alloc (.cells #[.slice ap n2 cp] 55) := ⟨_, rfl⟩
  have b3 : Below w2.heap.size w2 V2 := by rw [hV2]; exact box_below _ _ _
  have HP2 : Holds V2 gp 55 #[.slice ap n2 cp] := by rw [hV2, hgp]; exact Holds.new _ _ _
  have HL3 := Lib.hid (HL2.below b3 HL2.lt)
  have H43 := Lib.hid (H42.below b3 H42.lt)
  have SP3 := Lib.hid ((sp.below b3).mono b3.size)
  have B3 := Lib.hid ((B1.out.trans (b2.mono B1.out.size)).trans (b3.mono (Nat.le_trans B1.out.size b2.size)))
  have k1 := HP2.cell 0
  simp at k1
  have HP3 := Lib.hid HP2
  have hV2' := Lib.hid hV2
  have hgp' := Lib.hid hgp
  clear hm sp b2 b3 HL2 H42 HP2 hV2 hgp HL1 H41 B1 qf
  go_upto_region 5 with (fail)
  rw [← hV2'.out, ← hgp'.out]
  clear hV2' hgp'
  obtain ⟨gv, hgv⟩ : ∃ gv, gv = V2.heap.size := ⟨_, rfl⟩
  have hgv' := Lib.hid hgv
  clear hgv
  go_wp2_with fail
  refine (values64_any ap n2 cp V2).mono ?_
  rintro e V3 ⟨rfl, hV3⟩
  have b4 : Below V2.heap.size V2 V3 := by rw [hV3]; exact box_below _ _ _
  have HV : Holds V3 gv 55 #[.slice ap n2 cp] := by rw [hV3, hgv'.out]; exact Holds.new _ _ _
  have kv := HV.cell 0
  simp at kv
  have q5 := Lib.hid (qs.out gv cp ap V3 kv HV.lt ((SP3.out.below b4).mono b4.size))
  have HL4 := Lib.hid (HL3.out.below b4 HL3.out.lt)
  have H44 := Lib.hid (H43.out.below b4 H43.out.lt)
  have HP4 := Lib.hid (HP3.out.below b4 HP3.out.lt)
  have SP4 := Lib.hid ((SP3.out.below b4).mono b4.size)
  have B4 := Lib.hid (B3.out.trans (b4.mono B3.out.size))
  rw [← hgv'.out]
  clear hgv' hV3 b4 HV kv qs HL3 H43 HP3 SP3 B3 k1
  go_wp2_with fail
  refine q5.out.mono ?_
  rintro e w5 ⟨v5, l', rfl, u1, u2, o5, b5⟩
  have hl' : l'.length = n2 := by rw [u2.length_eq]; exact hpl'.out
  obtain ⟨as5, cs5, rfl, -, ss5⟩ := sees_own o5
  rw [hl'] at o5 ⊢
  have HL5 := HL4.out.below b5 HL4.out.lt
  have H45 := H44.out.below b5 H44.out.lt
  have HP5 := HP4.out.below b5 HP4.out.lt
  have SP5 := (SP4.out.below b5).mono b5.size
  have B5 := B4.out.trans (b5.mono B4.out.size)
  obtain ⟨gs, hgs⟩ : ∃ gs, gs = w5.heap.size := ⟨_, rfl⟩
  obtain ⟨V6, hV6⟩ : ∃ V, V = w5.alloc (.cells #[.slice as5 n2 cs5] 55) := ⟨_, rfl⟩
  obtain ⟨g9, hg9⟩ : ∃ g9, g9 = V6.heap.size := ⟨_, rfl⟩
  obtain ⟨V7, hV7⟩ : ∃ V, V = V6.alloc (.cells #[.slice none 0 0, .slice none 0 0, .slice none 0 0, .slice none 0 0] 28) := ⟨_, rfl⟩
  have b6 : Below w5.heap.size w5 V6 := by rw [hV6]; exact box_below _ _ _
  have b7 : Below V6.heap.size V6 V7 := by rw [hV7]; exact box_below _ _ _
  have b67 : Below w5.heap.size w5 V7 := b6.trans (b7.mono b6.size)
  have HS6 : Holds V6 gs 55 #[.slice as5 n2 cs5] := by rw [hV6, hgs]; exact Holds.new _ _ _
  have H97 : Hid (Holds V7 g9 28 #[.slice none 0 0, .slice none 0 0, .slice none 0 0, .slice none 0 0]) := Lib.hid (by rw [hV7, hg9]; exact Holds.new _ _ _)
  have HS7 := Lib.hid (HS6.below b7 HS6.lt)
  have HL7 := Lib.hid (HL5.below b67 HL5.lt)
  have H47 := Lib.hid (H45.below b67 H45.lt)
  have HP7 := Lib.hid (HP5.below b67 HP5.lt)
  have SP7 := Lib.hid ((SP5.below b67).mono b67.size)
  have hsz57 : w5.heap.size ≤ V7.heap.size := b67.size
  have SS7 : Hid (SeesE [g9] .u64 w5.heap.size V7 as5 l') := Lib.hid ((ss5.below b67).out (by simp; rw [hg9]; exact b6.size))
  have B7 := Lib.hid (B5.trans (b67.mono B5.size))
  have hgs' := Lib.hid hgs
  have hV6' := Lib.hid hV6
  have hg9' := Lib.hid hg9
  have hV7' := Lib.hid hV7
  have hup := Lib.hid u1
  have hpm := Lib.hid u2
  have hll := Lib.hid hl'
  have h9n : w.heap.size ≤ g9 := by rw [hg9]; exact Nat.le_trans B5.size b6.size
  have h4n : w.heap.size ≤ g4 := by rw [hg4'.out]; omega
  have h49 : g4 ≠ g9 := by have := H45.lt; have := b6.size; omega
  have hl9 : gl ≠ g9 := by have := HL5.lt; have := b6.size; omega
  have hs9 : gs ≠ g9 := by have := HS6.lt; omega
  clear hgs hV6 hg9 hV7 u1 u2 hl' b6 b7 b67 HS6 HL5 H45 HP5 SP5 ss5 B5 o5 b5 HL4 H44 HP4 SP4 B4 q5
  go_upto_region 6 with (fail)
  rw [← hV6'.out, ← hgs'.out]
  clear hV6' hgs'
  go_upto_region 7 with (fail)
  rw [← hV7'.out, ← hg9'.out]
  clear hV7' hg9'
  have hlen1 : n1 ≤ 1024 := by have := hm1.out; have := hl1.out; omega
  have qa := Lib.hid (apartAl_any 34 #[.pointer (some ⟨gl, 0, none⟩), .pointer (some ⟨gp, 0, none⟩)] (fun k => hasB l (ps.getD k 0)) V7 a2 n2 c2 A (by omega) (R2.out V7 B7.out) (enters_of Tryz.func34 (by kernel_rfl) rfl)
    (fun W hW k hk => q1.out W gl gp ap cp (R1.out W (B7.out.trans (hW.mono B7.out.size))) (HL7.out.below hW HL7.out.lt) ((SP7.out.below hW).mono hW.size) (HP7.out.below hW HP7.out.lt) k hk (A.getD k al0)))
  clear q1
  go_wp2_with fail
  refine qa.out.mono ?_
  rintro e w8 ⟨v1, v2, rfl, T8⟩
  have b8 := T8.b
  have H98 := H97.out.below b8 H97.out.lt
  have d0 := H98.cell 0
  have d1 := H98.cell 1
  have f0 := H98.free 0
  have f1 := H98.free 1
  simp at d0 d1
  obtain ⟨L1, hL1⟩ : ∃ L, L = partL al0 (fun k => hasB l (ps.getD k 0)) true A n2 := ⟨_, rfl⟩
  obtain ⟨L2, hL2⟩ : ∃ L, L = partL al0 (fun k => hasB l (ps.getD k 0)) false A n2 := ⟨_, rfl⟩
  rw [← hL1, ← hL2] at T8
  obtain ⟨V9, hV9⟩ : ∃ V, V = (w8.setCell ⟨g9, 0, none⟩ v1).setCell ⟨g9, 1, none⟩ v2 := ⟨_, rfl⟩
  have bE : BelowE [g9] w8.heap.size w8 V9 := by rw [hV9]; exact ((BelowE.refl [g9] _ _).setIn (p := ⟨g9, 0, none⟩) (by simp) _).setIn (p := ⟨g9, 1, none⟩) (by simp) _
  have h97 := H97.out.lt
  have O1 := own_belowE T8.o1 bE (fun k hk => by have := (T8.o1.lt k hk).1; simp; omega)
  have O2 := own_belowE T8.o2 bE (fun k hk => by have := (T8.o2.lt k hk).1; simp; omega)
  obtain ⟨x1, y1, rfl, p1, p2, p3⟩ := seesC_own O1
  obtain ⟨x2, y2, rfl, p4, p5, p6⟩ := seesC_own O2
  have r1 : RO alC V9 x1 L1.length y1 L1 := ⟨rfl, p1, p2, p3⟩
  have r2 : RO alC V9 x2 L2.length y2 L2 := ⟨rfl, p4, p5, p6⟩
  have H99 : Hid (Holds V9 g9 28 #[.slice x1 L1.length y1, .slice x2 L2.length y2, .slice none 0 0, .slice none 0 0]) := Lib.hid (by rw [hV9]; have := (H98.set 0 (.slice x1 L1.length y1)).set 1 (.slice x2 L2.length y2); simpa using this)
  have hV9' := Lib.hid hV9
  have HL9 := Lib.hid ((HL7.out.below b8 HL7.out.lt).belowE bE (by have := HL7.out.lt; have := b8.size; omega) (by simp; exact hl9))
  have H49 := Lib.hid ((H47.out.below b8 H47.out.lt).belowE bE (by have := H47.out.lt; have := b8.size; omega) (by simp; exact h49))
  have HS9 := Lib.hid ((HS7.out.below b8 HS7.out.lt).belowE bE (by have := HS7.out.lt; have := b8.size; omega) (by simp; exact hs9))
  have SS9 : Hid (Sees .u64 V9.heap.size V9 as5 l') := Lib.hid (((SS7.out.belowE ((BelowE.of (b8.mono hsz57)).trans (bE.mono (Nat.le_trans hsz57 b8.size)))).sees).mono (Nat.le_trans (Nat.le_trans hsz57 b8.size) bE.size))
  have B9 : Hid (Below w.heap.size w V9) := Lib.hid (by rw [hV9]; exact bl_set (bl_set (B7.out.trans (b8.mono B7.out.size)) (p := ⟨g9, 0, none⟩) h9n _) (p := ⟨g9, 1, none⟩) h9n _)
  have O1' := Lib.hid O1
  have O2' := Lib.hid O2
  have h97' := Lib.hid h97
  have h47' : Hid (g4 < V7.heap.size ∧ V7.heap.size ≤ V9.heap.size) := Lib.hid ⟨H47.out.lt, Nat.le_trans b8.size bE.size⟩
  have hL1' := Lib.hid hL1
  have hL2' := Lib.hid hL2
  clear hV9 bE T8 b8 H98 O1 O2 p1 p2 p3 p4 p5 p6 r1 r2 hL1 hL2 SS7 H97 HL7 H47 HP7 SP7 HS7 qa h97
  go_upto_region 8 with (fail)
  rw [← hV9'.out]
  clear hV9' d0 d1 f0 f1 B7
  have ky := HL9.out.cell 0
  simp at ky
  have qm := Lib.hid (apartMk_any 37 #[.pointer (some ⟨gs, 0, none⟩)] (fun k => decide ((l.getD k mk0).f ∈ l')) V9 a1 n1 c1 l (by omega) (R1.out V9 B9.out) (enters_of Tryz.func37 (by kernel_rfl) rfl)
    (fun W hW k hk => match2_any W as5 n2 cs5 gs l' 55 (by omega) hll.out.symm (fun t j h1 h2 => hup.out t j h1 (by rw [hll.out]; exact h2)) ((SS9.out.below hW).mono hW.size) (HS9.out.below hW HS9.out.lt) (k : Int) (l.getD k mk0).f (l.getD k mk0).note))
  go_wp2_with fail
  refine qm.out.mono ?_
  rintro e w10 ⟨v3, v4, rfl, T10⟩
  have b10 := T10.b
  have H910 := H99.out.below b10 H99.out.lt
  have d2 := H910.cell 2
  have d3 := H910.cell 3
  have f2 := H910.free 2
  have f3 := H910.free 3
  simp at d2 d3
  obtain ⟨L3, hL3⟩ : ∃ L, L = partL mk0 (fun k => decide ((l.getD k mk0).f ∈ l')) true l n1 := ⟨_, rfl⟩
  obtain ⟨L4, hL4⟩ : ∃ L, L = partL mk0 (fun k => decide ((l.getD k mk0).f ∈ l')) false l n1 := ⟨_, rfl⟩
  rw [← hL3, ← hL4] at T10
  obtain ⟨V11, hV11⟩ : ∃ V, V = (w10.setCell ⟨g9, 2, none⟩ v3).setCell ⟨g9, 3, none⟩ v4 := ⟨_, rfl⟩
  have bF : BelowE [g9] w10.heap.size w10 V11 := by rw [hV11]; exact ((BelowE.refl [g9] _ _).setIn (p := ⟨g9, 2, none⟩) (by simp) _).setIn (p := ⟨g9, 3, none⟩) (by simp) _
  have h99 := H99.out.lt
  have O3 := own_belowE T10.o1 bF (fun k hk => by have := (T10.o1.lt k hk).1; simp; omega)
  have O4 := own_belowE T10.o2 bF (fun k hk => by have := (T10.o2.lt k hk).1; simp; omega)
  have bG : BelowE [g9] V9.heap.size V9 V11 := (BelowE.of b10).trans (bF.mono b10.size)
  have O1f := own_belowE O1'.out bG (fun k hk => by have := (O1'.out.lt k hk).1; have := h97'.out; simp; omega)
  have O2f := own_belowE O2'.out bG (fun k hk => by have := (O2'.out.lt k hk).1; have := h97'.out; simp; omega)
  obtain ⟨x3, y3, rfl, p1, p2, p3⟩ := seesC_own O3
  obtain ⟨x4, y4, rfl, p4, p5, p6⟩ := seesC_own O4
  obtain ⟨z1, t1, e1, s1, s2, s3⟩ := seesC_own O1f
  obtain ⟨z2, t2, e2, s4, s5, s6⟩ := seesC_own O2f
  injection e1 with e1 e1n e1c
  injection e2 with e2 e2n e2c
  subst e1 e1c e2 e2c
  have OW := Lib.hid (And.intro O1f (And.intro O2f (And.intro O3 O4)))
  have hD : Hid (d = ⟨L1, L2, L3, L4⟩) := Lib.hid (by
    rw [hd'.out]
    unfold splitD
    have e3 : (fun k => decide ((l.getD k mk0).f ∈ l')) = (fun k => decide ((l.getD k mk0).f ∈ ps)) := by
      funext k
      exact decide_eq_decide.2 (hpm.out.mem_iff)
    rw [hL1'.out, hL2'.out, hL3, hL4, e3, ← hm1.out, ← hm2.out])
  have H911 : Hid (Holds V11 g9 28 #[.slice x1 L1.length y1, .slice x2 L2.length y2, .slice x3 L3.length y3, .slice x4 L4.length y4]) := Lib.hid (by rw [hV11]; have := (H910.set 2 (.slice x3 L3.length y3)).set 3 (.slice x4 L4.length y4); simpa using this)
  have H411 : Holds V11 g4 28 #[.slice none 0 0, .slice none 0 0, .slice none 0 0, .slice none 0 0] := (H49.out.belowE bG H49.out.lt (by simp; exact h49))
  have B11 : Hid (Below w.heap.size w V11) := Lib.hid (by rw [hV11]; exact bl_set (bl_set (B9.out.trans (b10.mono B9.out.size)) (p := ⟨g9, 2, none⟩) h9n _) (p := ⟨g9, 3, none⟩) h9n _)
  have hV11' := Lib.hid hV11
  clear hV11 bF h99 O3 O4 bG O1f O2f p1 p2 p3 p4 p5 p6 s1 s2 s3 s4 s5 s6 T10 b10 H910 hL3 hL4 H99 HL9 H49 HS9 SS9 B9 O1' O2' qm ky e1n e2n
  go_upto_region 9 with (fail)
  rw [← hV11'.out]
  clear hV11' d2 d3 f2 f3
  have k0 := H911.out.cell 0
  have k1 := H911.out.cell 1
  have k2 := H911.out.cell 2
  have k3 := H911.out.cell 3
  simp at k0 k1 k2 k3
  go_wp2_with
    (refine wpList_store_row rfl 28 (.tmp 4) (.tmp 37) rfl g4 #[.slice x1 L1.length y1, .slice x2 L2.length y2, .slice x3 L3.length y3, .slice x4 L4.length y4] rfl rfl 28 #[.slice none 0 0, .slice none 0 0, .slice none 0 0, .slice none 0 0] H411 (by rw [info_sp]; rfl) rfl (by simp [Value.oneCell']) ?_
     have bS : Hid (Below w.heap.size w (V11.setRow g4 #[.slice x1 L1.length y1, .slice x2 L2.length y2, .slice x3 L3.length y3, .slice x4 L4.length y4])) := Lib.hid (mk_setRow B11.out h4n _)
     have HSf : Hid (Holds (V11.setRow g4 #[.slice x1 L1.length y1, .slice x2 L2.length y2, .slice x3 L3.length y3, .slice x4 L4.length y4]) g4 28 #[.slice x1 L1.length y1, .slice x2 L2.length y2, .slice x3 L3.length y3, .slice x4 L4.length y4]) := Lib.hid (setRow_heap V11 g4 #[.slice none 0 0, .slice none 0 0, .slice none 0 0, .slice none 0 0] _ 28 (0, 0) H411)
     have bSE : Hid (BelowE [g4] V11.heap.size V11 (V11.setRow g4 #[.slice x1 L1.length y1, .slice x2 L2.length y2, .slice x3 L3.length y3, .slice x4 L4.length y4])) := Lib.hid ⟨rfl, rfl, rfl, by simp, fun k _ hk => setRow_other V11 g4 k _ (by simpa using hk)⟩
     generalize V11.setRow g4 #[.slice x1 L1.length y1, .slice x2 L2.length y2, .slice x3 L3.length y3, .slice x4 L4.length y4] = V12 at *)
  refine sp_ret2 HSf.out ⟨⟨x1, L1.length, y1, x2, L2.length, y2, x3, L3.length, y3, x4, L4.length, y4⟩, rfl, ?_, bS.out⟩ _ _ 4 5 rfl rfl rfl rfl
  obtain ⟨w1', w2', w3', w4'⟩ := OW.out
  have F1 := own_belowE w1' bSE.out (fun k hk => by have := (w1'.lt k hk).1; have := h47'.out; simp; omega)
  have F2 := own_belowE w2' bSE.out (fun k hk => by have := (w2'.lt k hk).1; have := h47'.out; simp; omega)
  have F3 := own_belowE w3' bSE.out (fun k hk => by have := (w3'.lt k hk).1; have := h47'.out; simp; omega)
  have F4 := own_belowE w4' bSE.out (fun k hk => by have := (w4'.lt k hk).1; have := h47'.out; simp; omega)
  obtain ⟨z1, t1, e1, s1, s2, s3⟩ := seesC_own F1
  obtain ⟨z2, t2, e2, s4, s5, s6⟩ := seesC_own F2
  obtain ⟨z3, t3, e3, s7, s8, s9⟩ := seesC_own F3
  obtain ⟨z4, t4, e4, s10, s11, s12⟩ := seesC_own F4
  injection e1 with e1 e1n e1c
  injection e2 with e2 e2n e2c
  injection e3 with e3 e3n e3c
  injection e4 with e4 e4n e4c
  subst e1 e1c e2 e2c e3 e3c e4 e4c
  rw [hD.out]
  exact ⟨⟨rfl, s1, s2, s3⟩, ⟨rfl, s4, s5, s6⟩, ⟨rfl, s7, s8, s9⟩, ⟨rfl, s10, s11, s12⟩⟩
set_option maxRecDepth 100000 in
set_option maxHeartbeats 4000000 in
theorem bmatch_bad (w : World) (a1 a2 : Option Addr) (n1 n2 c1 c2 : Nat) (l : List MkD) (hb : baseB l = false) (h1 : RO mkC w a1 n1 c1 l) :
    Calls Tryz.prog 11 #[.slice a1 n1 c1, .slice a2 n2 c2] w (SpG w ⟨[], [], [], []⟩ 210) := by
  have q0 := Lib.hid (fun W hW => by have := bbase_any W a1 n1 c1 l (h1.below hW); rw [bchk_no hb] at this; exact this)
  obtain ⟨gl, hgl⟩ : ∃ gl, gl = w.heap.size := ⟨_, rfl⟩
  obtain ⟨g4, hg4⟩ : ∃ g4, g4 = w.heap.size + 1 := ⟨_, rfl⟩
  obtain ⟨V0, hV0⟩ : ∃ V, V = (w.alloc (.cells #[.slice a1 n1 c1] 22)).alloc (.cells #[.slice none 0 0, .slice none 0 0, .slice none 0 0, .slice none 0 0] 28) := ⟨_, rfl⟩
  have b0 : Below w.heap.size w V0 := by rw [hV0]; exact box2_below _ _ _ _ _
  have HL0 : Holds V0 gl 22 #[.slice a1 n1 c1] := by rw [hV0, hgl]; exact (Holds.new _ _ _).alloc _
  have H40 : Holds V0 g4 28 #[.slice none 0 0, .slice none 0 0, .slice none 0 0, .slice none 0 0] := by rw [hV0, hg4]; have := Holds.new (w.alloc (.cells #[.slice a1 n1 c1] 22)) 28 #[.slice none 0 0, .slice none 0 0, .slice none 0 0, .slice none 0 0]; rwa [World.size_alloc] at this
  have k0 := HL0.cell 0
  simp at k0
  have h4n : w.heap.size ≤ g4 := by omega
  have hV0' := Lib.hid hV0
  have hgl' := Lib.hid hgl
  have hg4' := Lib.hid hg4
  have H40' := Lib.hid H40
  have B0 := Lib.hid b0
  clear hb h1 hgl hg4 hV0 HL0 H40 b0
  go_enter Tryz.func11, Tryz.ntmps11
  go_upto_region 1 with (fail)
  rw [← hV0'.out, ← hg4'.out, ← hgl'.out]
  go_wp2_with fail
  refine (q0.out V0 B0.out).mono ?_
  rintro e w1 ⟨rfl, b1⟩
  have H41 := H40'.out.below b1 H40'.out.lt
  have B1 := Lib.hid (B0.out.trans (b1.mono B0.out.size))
  clear b1 H40' B0 q0 k0
  go_wp2_with
    (refine wpList_store_row rfl 28 (.tmp 4) (.tmp 14) rfl g4 #[.slice none 0 0, .slice none 0 0, .slice none 0 0, .slice none 0 0] rfl rfl 28 #[.slice none 0 0, .slice none 0 0, .slice none 0 0, .slice none 0 0] H41 (by rw [info_sp]; rfl) rfl (by simp [Value.oneCell']) ?_
     have bS : Hid (Below w.heap.size w (w1.setRow g4 #[.slice none 0 0, .slice none 0 0, .slice none 0 0, .slice none 0 0])) := Lib.hid (mk_setRow B1.out h4n _)
     have HSf : Hid (Holds (w1.setRow g4 #[.slice none 0 0, .slice none 0 0, .slice none 0 0, .slice none 0 0]) g4 28 #[.slice none 0 0, .slice none 0 0, .slice none 0 0, .slice none 0 0]) := Lib.hid (setRow_heap w1 g4 #[.slice none 0 0, .slice none 0 0, .slice none 0 0, .slice none 0 0] _ 28 (0, 0) H41)
     generalize w1.setRow g4 #[.slice none 0 0, .slice none 0 0, .slice none 0 0, .slice none 0 0] = V12 at *)
  exact sp_ret2 HSf.out ⟨⟨none, 0, 0, none, 0, 0, none, 0, 0, none, 0, 0⟩, rfl, ⟨RO.nil _, RO.nil _, RO.nil _, RO.nil _⟩, bS.out⟩ _ _ 4 5 rfl rfl rfl rfl
end Go.Proofs.YtpchncpcckfghaaGreat
namespace Go.Proofs.YtpchncpcckfghaaGreat
open Go.RowKit
set_option linter.unusedVariables false
set_option linter.unusedSimpArgs false
set_option maxRecDepth 100000 in
set_option maxHeartbeats 4000000 in
theorem compact_none (w : World) (a : Option Addr) (n c : Nat) (l : List Int) (hl : n = l.length) (hm : n ≤ 1000000) (hs : ∀ i, i + 1 < n → l.getD (i + 1) 0 ≠ l.getD i 0) (h : Sees .u64 w.heap.size w a l) :
    Calls Tryz.prog 46 #[.slice a n c] w fun e w' => e = .returned (.slice a n c) ∧ ∃ m, w' = w.drewN m := by
  have hl' := Lib.hid hl
  have hS := Lib.hid h
  have hne := Lib.hid hs
  by_cases h2 : n < 2
  · have h2z : (n : Int) < 2 := by omega
    clear hl hs h
    go_enter Tryz.func46, Tryz.ntmps46
    go_wp2
    exact bodyPost_ret (results_tmp rfl _ _ _) rfl ⟨rfl, 0, rfl⟩
  · have h2z : ¬ (n : Int) < 2 := by omega
    clear hl hs h
    go_enter Tryz.func46, Tryz.ntmps46
    go_wp2
    go_loopw [3] (fun x wr => ∃ k m : Nat, 1 ≤ k ∧ k ≤ n ∧ x = .int .i64 k ∧ wr = w.drewN m) (fun x _ => n - (intOf x).toNat)
    case atStart => exact ⟨1, 0, by omega, by omega, rfl, rfl⟩
    case round =>
      obtain ⟨k, m, hk1, hk, rfl, rfl⟩ := hrel
      by_cases hlt : k < n
      · have hki : (k : Int) < (n : Int) := by omega
        obtain ⟨q, rfl⟩ : ∃ q, k = q + 1 := ⟨k - 1, by omega⟩
        have hlq : q + 1 < l.length := by rw [← hl'.out]; exact hlt
        obtain ⟨b, off, rfl, hb, x0, x1⟩ : ∃ b off, a = some ⟨b, off, none⟩ ∧ b < w.heap.size ∧ w.cell? ⟨b, off + (q + 1), none⟩ = some (.int .u64 (l.getD (q + 1) 0)) ∧ w.cell? ⟨b, off + q, none⟩ = some (.int .u64 (l.getD q 0)) := by
          rcases hS.out with e | ⟨b, off, e, hb, hc⟩
          · rw [e] at hlq; simp at hlq
          · exact ⟨b, off, e, hb, hc _ hlq, hc _ (by omega)⟩
        have hd := hne.out q hlt
        generalize l.getD (q + 1) 0 = y at *
        generalize l.getD q 0 = x at *
        have hdb : (y == x) = false := by simpa using hd
        have hq1 : ((q + 1 : Nat) : Int) - 1 = (q : Int) := by omega
        go_wp2
        go_quiet (fail)
        go_wp2
        go_roundw
        case rel => exact ⟨q + 2, m + nq, by omega, by omega, by go_num, by simp [World.drewN, Nat.add_assoc]⟩
        case measure => simp [intOf]; omega
      · have hki : ¬ (k : Int) < (n : Int) := by omega
        go_wp2
        exact bodyPost_ret (results_tmp rfl _ _ _) rfl ⟨rfl, m, rfl⟩
theorem up_strict {l : List Int} (hu : upL l) (hn : l.Nodup) : ∀ i, i + 1 < l.length → l.getD (i + 1) 0 ≠ l.getD i 0 := fun i hi e => by
  have h1 : l.getD (i + 1) 0 = l[i + 1] := by simp [List.getD, hi]
  have h2 : l.getD i 0 = l[i] := by simp [List.getD, show i < l.length by omega]
  rw [h1, h2] at e
  exact (List.pairwise_iff_getElem.1 hn) i (i + 1) (by omega) hi (by omega) e.symm
def mkL (s : ByteArray) (l : List Int) : List MkD := l.map fun f => ⟨f, s⟩
theorem mkL_next (s : ByteArray) {l : List Int} {k : Nat} (hk : k < l.length) : mkL s (l.take (k + 1)) = mkL s (l.take k) ++ [⟨l.getD k 0, s⟩] := by
  have e : l.take (k + 1) = l.take k ++ [l.getD k 0] := by rw [List.take_add_one]; simp [List.getD, hk]
  unfold mkL
  rw [e, List.map_append]
  rfl
def OfG (w : World) (ps : List Int) (s : ByteArray) (e : Ending) (w' : World) : Prop := ∃ l' a c, upL l' ∧ l'.Perm ps ∧ e = .returned (.tuple #[.slice a (mkL s l').length c, .int .i64 0]) ∧ RO mkC w' a (mkL s l').length c (mkL s l') ∧ Below w.heap.size w w'
theorem base_one {s : ByteArray} (h : noteB s = true) : baseB [⟨0, s⟩] = true := by
  unfold baseB
  simp [okAt, h]
set_option maxRecDepth 100000 in
set_option maxHeartbeats 8000000 in
theorem bof_ok (w : World) (a2 : Option Addr) (n2 c2 : Nat) (A : List AlD) (s : ByteArray) (hs : noteB s = true) (h2 : RO alC w a2 n2 c2 A) (hW : ∀ s ∈ A, alW s) (hS : ∀ s ∈ A, smallA s) (hn : n2 ≤ 100) (hP : PdqOK n2) (hd : (printsL A n2).Nodup) :
    Calls Tryz.prog 23 #[.slice a2 n2 c2, .string s] w (OfG w (printsL A n2) s) := by
  have hpl := prints_len A n2
  obtain ⟨W1, hW1⟩ : ∃ V, V = w.alloc (.cells #[.int .u64 0, .string s] 40) := ⟨_, rfl⟩
  have b1 : Below w.heap.size w W1 := by rw [hW1]; exact box_below _ _ _
  have hr : RO mkC W1 (some ⟨w.heap.size, 0, none⟩) 1 1 [⟨0, s⟩] := ⟨rfl, Nat.le_refl _, by simp [maxLen], by rw [hW1]; exact seesC_lit w 40 #[.int .u64 0, .string s]⟩
  have q0 := bbase_any W1 _ 1 1 [⟨0, s⟩] hr
  rw [bchk_yes (base_one hs)] at q0
  have Q0 := Lib.hid q0
  have qf := Lib.hid (fun W hB => fofs_any A a2 n2 c2 W (h2.below hB) hW hS hn)
  have hp' : Hid (printsL A n2 = (List.range n2).map (fun i => oneK (keyA (A.getD i al0)) (rankA A i))) := Lib.hid rfl
  rw [← hp'.out] at qf
  have qs := Lib.hid (fun base v W ho => usort_any base n2 v (printsL A n2) hpl.symm (by omega) hP W ho)
  generalize printsL A n2 = ps at *
  have hpl' := Lib.hid hpl
  have hd' := Lib.hid hd
  have hW1' := Lib.hid hW1
  have B1 := Lib.hid b1
  have hnz : (n2 : Int) ≤ 100 := by omega
  clear hW hS hP hs h2 hr q0 hW1 b1 hpl hd
  go_enter Tryz.func23, Tryz.ntmps23
  go_wp2_with fail
  rw [← hW1'.out]
  clear hW1'
  refine Q0.out.mono ?_
  rintro e w2 ⟨rfl, b2⟩
  have B2 := Lib.hid (B1.out.trans (b2.mono B1.out.size))
  clear b2 B1 Q0
  go_wp2_with fail
  refine (qf.out w2 B2.out).mono ?_
  rintro e w3 ⟨v3, rfl, o3, b3⟩
  rw [hpl'.out] at o3
  have Qs := Lib.hid (qs.out w2.heap.size v3 w3 o3)
  have B3 := Lib.hid (B2.out.trans (b3.mono B2.out.size))
  have Z3 := Lib.hid (Nat.le_trans B2.out.size (Nat.le_refl _))
  clear o3 b3 qf qs
  go_wp2_with fail
  refine Qs.out.mono ?_
  rintro e w4 ⟨rfl, l', u1, u2, o4, b4⟩
  obtain ⟨ap, cp, rfl, hnl, hse⟩ := sees_own o4
  have hl2 : l'.length = n2 := hnl.symm
  rw [hl2] at o4 ⊢
  have qc := Lib.hid (compact_none w4 ap n2 cp l' hl2.symm (by omega) (fun i hi => up_strict u1 (u2.symm.nodup hd'.out) i (by rw [hl2]; exact hi)) hse)
  have B4 := Lib.hid (B3.out.trans (b4.mono B2.out.size))
  have SE := Lib.hid hse
  have U := Lib.hid (And.intro u1 u2)
  have HL := Lib.hid hl2
  clear o4 hnl hse b4 u1 u2 hl2 Qs B3 Z3 B2
  go_wp2_with fail
  refine qc.out.mono ?_
  rintro e w5 ⟨rfl, m5, rfl⟩
  have SE5 : Hid (Sees .u64 (w4.drewN m5).heap.size (w4.drewN m5) ap l') := Lib.hid (SE.out.drewN m5)
  have B5 : Hid (Below w.heap.size w (w4.drewN m5)) := Lib.hid (Below.drewN B4.out m5)
  clear SE B4 qc
  generalize w4.drewN m5 = w6 at *
  have O6 := Lib.hid (show w6.ownsRow w6.heap.size 40 2 (.slice none 0 0) (mkL s (l'.take 0)).length (mkcells (mkL s (l'.take 0))) from own_nil _ _ _ _)
  go_wp2
  go_loopw [8, 28] (fun v x wr => ∃ k : Nat, k ≤ n2 ∧ x = .int .i64 k ∧ Hid (wr.ownsRow w6.heap.size 40 2 v (mkL s (l'.take k)).length (mkcells (mkL s (l'.take k)))) ∧ Hid (Below w6.heap.size w6 wr)) (fun _ x _ => n2 - (intOf x).toNat)
  case atStart => exact ⟨0, Nat.zero_le _, rfl, O6, Lib.hid (Below.refl _ _)⟩
  case round =>
    clear O6
    obtain ⟨k, hk, rfl, hO, hB⟩ := hrel
    generalize wr = g0 at *
    by_cases hlt : k < n2
    · have hki : (k : Int) < (n2 : Int) := by omega
      have hkl : k < l'.length := by rw [HL.out]; exact hlt
      obtain ⟨b, off, rfl, hb, x0⟩ : ∃ b off, ap = some ⟨b, off, none⟩ ∧ b < w6.heap.size ∧ g0.cell? ⟨b, off + k, none⟩ = some (.int .u64 (l'.getD k 0)) := by
        rcases SE5.out with e | ⟨b, off, e, hb, hc⟩
        · rw [e] at hkl; simp at hkl
        · exact ⟨b, off, e, hb, (hB.out.cell (p := ⟨b, off + k, none⟩) hb).trans (hc k hkl)⟩
      have hN := Lib.hid (mkL_next s hkl)
      have hc : (mkL s (l'.take k)).length ≤ 1000000 := by simp [mkL]; omega
      generalize l'.getD k 0 = f at *
      generalize mkL s (l'.take k) = L at *
      clear hkl
      go_wp2_with (at_builtin; go_loud (refine wpList_append_mk g0 rfl (.tmp 32) (.tmp 36) rfl w6 _ L.length L hO.out hB.out ⟨f, s⟩ rfl _ rfl rfl hc ?_); intro v2 g2 o2 b2; have O2 := Lib.hid o2; have B2 := Lib.hid b2; clear o2 b2 hO hB)
      go_roundw
      case rel => exact ⟨k + 1, by omega, by go_num, Lib.hid (by have := O2.out; rw [hN.out, List.length_append]; exact this), B2⟩
      case measure => simp [intOf]; omega
    · have hki : ¬ (k : Int) < (n2 : Int) := by omega
      have ht : l'.take k = l' := List.take_of_length_le (by have := HL.out; omega)
      rw [ht] at hO
      obtain ⟨a3, c3, rfl, hro⟩ := mro_own hO.out
      have R3 := Lib.hid hro
      clear hO hro ht
      go_wp2
      refine bodyPost_ret (results_tmp2 rfl _ _ _) rfl ?_
      exact ⟨l', a3, c3, U.out.1, U.out.2, rfl, R3.out, B5.out.trans (hB.out.mono B5.out.size)⟩
end Go.Proofs.YtpchncpcckfghaaGreat
namespace Go.Proofs.YtpchncpcckfghaaGreat
open Go.RowKit
set_option linter.unusedVariables false
set_option linter.unusedSimpArgs false
def bvA : AlD := ⟨1, 1, ⟨#[102]⟩, ⟨#[97, 46, 103, 111]⟩, 9, ⟨#[120, 32, 60, 61, 32, 48]⟩⟩
def bvB : AlD := ⟨1, 1, ⟨#[102]⟩, ⟨#[97, 46, 103, 111]⟩, 3, ⟨#[120, 32, 60, 61, 32, 48]⟩⟩
theorem bv_key : keyA bvA = keyA bvB := rfl
theorem bv_cmp1 : cmpA bvA bvB = 1 := by decide +kernel
theorem bv_cmp2 : cmpA bvB bvA = -1 := by decide +kernel
theorem bv_rank0 : rankA [bvA, bvB] 0 = 1 := by
  unfold rankA rankL
  have e : List.range [bvA, bvB].length = [0, 1] := rfl
  rw [e]
  have s0 : aheadB cmpA [bvA, bvB] al0 0 0 = false := ahead_self cmA _ _ _
  have s1 : aheadB cmpA [bvA, bvB] al0 1 0 = true := by unfold aheadB; rw [show [bvA, bvB].getD 1 al0 = bvB from rfl, show [bvA, bvB].getD 0 al0 = bvA from rfl, bv_cmp2]; rfl
  have k1 : keyA ([bvA, bvB].getD 1 al0) = keyA ([bvA, bvB].getD 0 al0) := bv_key.symm
  simp only [List.countP_cons, List.countP_nil, s0, s1, Bool.false_and, Bool.true_and]
  rw [decide_eq_true k1]
  rfl
theorem bv_rank1 : rankA [bvA, bvB] 1 = 0 := by
  unfold rankA rankL
  have e : List.range [bvA, bvB].length = [0, 1] := rfl
  rw [e]
  have s0 : aheadB cmpA [bvA, bvB] al0 1 1 = false := ahead_self cmA _ _ _
  have s1 : aheadB cmpA [bvA, bvB] al0 0 1 = false := by unfold aheadB; rw [show [bvA, bvB].getD 1 al0 = bvB from rfl, show [bvA, bvB].getD 0 al0 = bvA from rfl, bv_cmp1]; rfl
  simp only [List.countP_cons, List.countP_nil, s0, s1, Bool.false_and]
  rfl
theorem bv_prints : printsL [bvA, bvB] 2 = [oneK (keyA bvA) 1, oneK (keyA bvA) 0] := by
  unfold printsL
  rw [show List.range 2 = [0, 1] from rfl]
  simp only [List.map_cons, List.map_nil, bv_rank0, bv_rank1]
  rw [show [bvA, bvB].getD 1 al0 = bvB from rfl, show [bvA, bvB].getD 0 al0 = bvA from rfl, bv_key]
theorem bv_ne (k : List Int) : oneK k 1 ≠ oneK k 0 := by
  intro h
  unfold oneK at h
  rw [leb_small (by omega), leb_small (by omega)] at h
  have := fstep_inj (t := fsum fstart k) (x := 1) (y := 0) (fsum_in fstart_in k) (by unfold InU; omega) (by unfold InU; omega) h
  omega
theorem bv_w : ∀ s ∈ [bvA, bvB], alW s := by
  intro s hs
  simp at hs
  rcases hs with rfl | rfl <;> (unfold alW; decide)
theorem bv_s : ∀ s ∈ [bvA, bvB], smallA s := by
  intro s hs
  simp at hs
  rcases hs with rfl | rfl <;> (unfold smallA; decide)
theorem bv_split {R0 R1 : Int} (h : R1 ≠ R0) (s : ByteArray) : splitD [⟨R0, s⟩] [bvA, bvB] [R1, R0] = ⟨[bvB], [bvA], [⟨R0, s⟩], []⟩ := by
  unfold splitD
  simp [partL, hasB, mk0, Ne.symm h]
def uA : List MkD := [⟨2, ⟨#[97]⟩⟩]
def uB : List MkD := [⟨1, ⟨#[]⟩⟩, ⟨2, ⟨#[98]⟩⟩]
def uC : List MkD := [⟨1, ⟨#[]⟩⟩]
def uD : List MkD := [⟨2, ⟨#[]⟩⟩, ⟨1, ⟨#[]⟩⟩]
theorem uA_b : baseB uA = true := by decide +kernel
theorem uB_b : baseB uB = true := by decide +kernel
theorem uC_b : baseB uC = true := by decide +kernel
theorem uD_b : baseB uD = false := by decide +kernel
theorem u_merge : mergeL uA uB = uB := by
  rw [merge_union (baseB_rise uA_b) (baseB_rise uB_b)]
  decide +kernel
theorem u_less : lessL uB uC = [⟨2, ⟨#[98]⟩⟩] := by decide +kernel
theorem u_has : hasB uB 2 = true := by decide +kernel
theorem u_look : look uB 2 = some ⟨#[98]⟩ := by decide +kernel
theorem bv_one {R : Int} : baseB [⟨R, ⟨#[107]⟩⟩] = true := by
  unfold baseB
  have : noteB ⟨#[107]⟩ = true := by decide +kernel
  simp [okAt, this]
theorem bv_note : noteB ⟨#[110]⟩ = true := by decide +kernel
end Go.Proofs.YtpchncpcckfghaaGreat
