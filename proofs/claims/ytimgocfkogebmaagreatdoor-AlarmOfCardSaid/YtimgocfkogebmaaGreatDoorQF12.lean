/-
  Words and walks under the law's proof.
-/
import Derived.Lib.Hide
import Derived.Test.YtimgocfkogebmaaGreatDoorRows
import Derived.IntWalk
import Derived.Deep.QuietTactic
import Derived.BigQuiet
import Derived.Deep.WholeRow
import Derived.Laws.Tables
import Derived.Laws.Rows
import Derived.Laws.ResultCell
import Derived.Test.YtimgocfkogebmaaGreatDoorQF01
import Derived.Test.YtimgocfkogebmaaGreatDoorQF02
import Derived.Test.YtimgocfkogebmaaGreatDoorQF06
import Derived.Test.YtimgocfkogebmaaGreatDoorQF08
import Derived.Test.YtimgocfkogebmaaGreatDoorQF09
import Derived.Test.YtimgocfkogebmaaGreatDoorQF11
namespace Go.Proofs.YtimgocfkogebmaaGreatDoor
open Go.RowKit
set_option linter.unusedVariables false
set_option linter.unusedSimpArgs false
structure Rb (w W : World) (gz n : Nat) (a : Option Addr) (m c : Nat) : Prop where
  bl : Below w.heap.size w W
  rb : ZH W w.heap.size (.int .i64 0) (.slice none 0 0)
  zb : ZH W gz (.int .i64 n) (.slice a m c)
theorem Rb.on {w W W' : World} {gz n : Nat} {a : Option Addr} {m c : Nat} (h : Rb w W gz n a m c) (hb : Below W.heap.size W W') : Rb w W' gz n a m c := ⟨h.bl.trans (hb.mono h.bl.size), h.rb.below hb h.rb.lt, h.zb.below hb h.zb.lt⟩
theorem rb_set {w W : World} {gz n : Nat} {a : Option Addr} {m c : Nat} (h : Rb w W gz n a m c) (hg : w.heap.size < gz) (m2 : Nat) (a2 : Option Addr) (c2 : Nat) : Rb w ((W.setCell ⟨gz, 0, none⟩ (.int .i64 n)).setCell ⟨gz, 1, none⟩ (.slice a2 m2 c2)) gz n a2 m2 c2 :=
  ⟨(h.bl.setCell (p := ⟨gz, 0, none⟩) (by show _ ≤ gz; omega) _).setCell (p := ⟨gz, 1, none⟩) (by show _ ≤ gz; omega) _, (h.rb.far (p := ⟨gz, 0, none⟩) (by show _ ≠ gz; omega) _).far (p := ⟨gz, 1, none⟩) (by show _ ≠ gz; omega) _, zh_set h.zb _ _⟩
set_option maxRecDepth 100000 in
set_option maxHeartbeats 2000000 in
theorem rbox_any (n : Nat) (hn : n ≤ 8) (xs : List (Int × Int)) (hx : xs.length = n) (a : Option Addr) (c : Nat) (w : World) (h : ItS w.heap.size w a xs) : Calls Tryz.prog 65 #[.slice a n c] w (ZoneR n (boxL n xs) w) := by
  rw [box_both hn xs]
  obtain ⟨W1, hW1⟩ : ∃ W1, W1 = w.alloc (.cells #[.int .i64 0, .slice none 0 0] 51) := ⟨_, rfl⟩
  obtain ⟨hB, hz⟩ : Below w.heap.size w W1 ∧ ZH W1 w.heap.size (.int .i64 0) (.slice none 0 0) := by rw [hW1]; exact zone_new
  have q1 := Lib.hid (rall_any n hn W1)
  have hal : Hid ((allL n).length ≤ 81) := Lib.hid (rbxK_isz hn xs 0).small
  have hst : Hid (∀ k, rbxK n xs (k + 1) = limitL n (limitL n (rbxK n xs k) (k + 1) 0 (boxP xs k).2) 0 (k + 1) (-(boxP xs k).1)) := Lib.hid (fun k => rfl)
  have hlk := Lib.hid (fun k => rbxK_isz hn xs k)
  have l1 := Lib.hid (fun L (hL : IsZ n L) k (hk : k + 1 ≤ n) cc a m ca W hS => (rlim_any n L hL (k + 1) 0 hk (Nat.zero_le _) cc a m ca W hS).mono (fun e w' h => h.r))
  have l2 := Lib.hid (fun L (hL : IsZ n L) k (hk : k + 1 ≤ n) cc a m ca W hS => rlim_any n L hL 0 (k + 1) (Nat.zero_le _) hk cc a m ca W hS)
  have h12 := Lib.hid (fun L i j cc => limitL_isz hn L i j cc)
  have hpi := Lib.hid (boxP_in xs)
  have hW1' := Lib.hid hW1
  have hB' := Lib.hid hB
  have hz' := Lib.hid hz
  have hx' := Lib.hid hx
  have hI := Lib.hid h
  have hni : (n : Int) ≤ 8 := by omega
  clear hW1 hB hz h hx hn
  go_enter Tryz.func65, Tryz.ntmps65
  go_wp2_with fail
  rw [← hW1'.out]
  refine q1.out.mono ?_
  rintro e w2 ⟨a2, c2, rfl, hc2, s2, b2, n2⟩
  obtain ⟨m2, hm2⟩ : ∃ m, m = (allL n).length := ⟨_, rfl⟩
  rw [← hm2] at hc2 ⊢
  have S2 : SL w2 a2 m2 c2 (rbxK n xs 0) := ⟨hm2, hc2, by have := hal.out; omega, s2⟩
  obtain ⟨W3, hW3⟩ : ∃ W3, W3 = w2.alloc (.cells #[.int .i64 n, .slice a2 m2 c2] 51) := ⟨_, rfl⟩
  have b3 : Below w2.heap.size w2 W3 := by rw [hW3]; exact box_below _ _ _
  have R3 : Rb w W3 w2.heap.size n a2 m2 c2 := ⟨(hB'.out.trans (b2.mono hB'.out.size)).trans (b3.mono (Nat.le_trans hB'.out.size b2.size)), (hz'.out.below b2 hz'.out.lt).below b3 (hz'.out.below b2 hz'.out.lt).lt, by rw [hW3]; exact Holds.new _ _ _⟩
  have hgz : w.heap.size < w2.heap.size := (hz'.out.below b2 hz'.out.lt).lt
  have S3 := Lib.hid (S2.below b3)
  have N3 := Lib.hid (new_far (l := rbxK n xs 0) (g := w.heap.size) n2 hz'.out.lt)
  have R3' := Lib.hid R3
  have hW3' := Lib.hid hW3
  clear hW3 R3 S2 s2 n2 b2 b3 hc2 hm2 q1 hal hB' hz'
  generalize hgzz : w2.heap.size = gz at *
  have hgz2 := Lib.hid hgzz
  clear hgzz
  go_wp2
  rw [hgz2.out]
  rw [← hW3'.out]
  go_loopw [4] (fun x wr => ∃ (k : Nat) (a : Option Addr) (m c : Nat), k ≤ n ∧ x = .int .i64 k ∧ Hid (Rb w wr gz n a m c) ∧ Hid (SL wr a m c (rbxK n xs k)) ∧ Hid (rbxK n xs k = [] ∨ ∀ p, a = some p → w.heap.size ≠ p.block)) (fun x _ => n - (intOf x).toNat)
  case atStart => exact ⟨0, a2, m2, c2, by omega, rfl, R3', S3, N3⟩
  case round =>
    clear S3 R3' N3 hW3' hgz2
    obtain ⟨k, az, mz, cz, hk, rfl, hR, hS, hN⟩ := hrel
    by_cases hlt : k < n
    · have hki : (k : Int) < (n : Int) := by omega
      have ku : IntKind.i64.wrap ((k : Int) + 1) = (k : Int) + 1 := wrap_small (by omega) (by omega)
      obtain ⟨b, off, rfl, -, i0, i1⟩ := (hI.out.below hR.out.bl).at_ (k := k) (by have := hx'.out; omega)
      have hpl := Lib.hid (fun W => rplainZ_any (xs.getD k (0, 0)).1 (xs.getD k (0, 0)).2 W)
      have hP : Hid (ofP (xs.getD k (0, 0)).1 (xs.getD k (0, 0)).2 = boxP xs k) := Lib.hid rfl
      rw [hP.out] at hpl
      have p1 := Lib.hid (l1.out (rbxK n xs k) (hlk.out k) k (by omega) (boxP xs k).2)
      have p2 := Lib.hid (l2.out (limitL n (rbxK n xs k) (k + 1) 0 (boxP xs k).2) (h12.out _ _ _ _) k (by omega) (-(boxP xs k).1))
      rw [← hst.out k] at p2
      have hkn : ((k + 1 : Nat) : Int) = (k : Int) + 1 := by omega
      rw [hkn] at p1 p2
      rw [show ((0 : Nat) : Int) = 0 from rfl] at p1 p2
      have pin := (hpi.out k).1
      have hw1 : IntKind.i64.wrap (-(boxP xs k).1) = -(boxP xs k).1 := IntWalk.i64_in _ (by omega)
      obtain ⟨L2, hL2⟩ : ∃ L, rbxK n xs (k + 1) = L := ⟨_, rfl⟩
      rw [hL2] at p2
      have hL := Lib.hid hL2
      clear hL2
      generalize limitL n (rbxK n xs k) (k + 1) 0 (boxP xs k).2 = L1 at *
      generalize rbxK n xs k = L0 at *
      generalize boxP xs k = P at *
      generalize (xs.getD k (0, 0)).1 = x at *
      generalize (xs.getD k (0, 0)).2 = y at *
      clear hP hkn
      go_wp2_with fail
      refine (hpl.out _).mono ?_
      rintro e v1 ⟨rfl, b1⟩
      have b2 := box_below v1 #[.int .i64 P.1, .int .i64 P.2] 101
      have R5 := Lib.hid ((hR.out.on b1).on b2)
      have S5 := Lib.hid ((hS.out.below b1).below b2)
      have Z5 := Lib.hid (Holds.new v1 101 #[.int .i64 P.1, .int .i64 P.2])
      have hlt5 : gz < v1.heap.size := (hR.out.on b1).zb.lt
      clear b1 b2 hR hS hN
      generalize P.1 = P1 at *
      generalize P.2 = P2 at *
      go_wp2
      generalize v1.alloc (.cells #[.int .i64 P1, .int .i64 P2] 101) = V at *
      generalize v1.heap.size = g5 at *
      have k0 := R5.out.zb.cell 0
      have k1 := R5.out.zb.cell 1
      have hx5 : g5 ∉ [gz] := by simp; omega
      have f0 : ∀ W, BelowE [gz] V.heap.size V W → W.cell? ⟨g5, 0, none⟩ = some (.int .i64 P1) := fun W hW => (Z5.out.belowE hW Z5.out.lt hx5).cell 0
      have f1 : ∀ W, BelowE [gz] V.heap.size V W → W.cell? ⟨g5, 1, none⟩ = some (.int .i64 P2) := fun W hW => (Z5.out.belowE hW Z5.out.lt hx5).cell 1
      refine wp_drawn_on (fun W => BelowE [gz] V.heap.size V W) (by kernel_rfl) ((BelowE.refl _ _ _).drew) (fun hHeld => ?_)
      refine wT 1 (v := ?v1) rfl (by kernel_rfl) (fun _ _ _ h => h) ?h1 (by assumption) ?r1
      case h1 => (intro w hSw; (try dsimp only at hSw); go_simp; try with_reducible rfl)
      refine wT 2 (v := ?v2) rfl (by kernel_rfl) (fun _ _ _ h => h) ?h2 (by assumption) ?r2
      case h2 => (intro w hSw; (try dsimp only at hSw); go_simp; try with_reducible rfl)
      refine wT 3 (v := ?v3) rfl (by kernel_rfl) (fun _ _ _ h => h) ?h3 (by assumption) ?r3
      case h3 => (intro w hSw; (try dsimp only at hSw); go_simp; try with_reducible rfl)
      refine wT 4 (v := ?v4) rfl (by kernel_rfl) (fun _ _ _ h => h) ?h4 (by assumption) ?r4
      case h4 => (intro w hSw; (try dsimp only at hSw); go_simp; try with_reducible rfl)
      refine wT 6 (v := ?v5) rfl (by kernel_rfl) (fun _ _ _ h => h) ?h5 (by assumption) ?r5
      case h5 => (intro w hSw; (try dsimp only at hSw); go_simp; try with_reducible rfl)
      refine wT 7 (v := ?v6) rfl (by kernel_rfl) (fun _ _ _ h => h) ?h6 (by assumption) ?r6
      case h6 => (intro w hSw; (try dsimp only at hSw); go_simp; try with_reducible rfl)
      refine wT 8 (v := ?v7) rfl (by kernel_rfl) (fun _ _ _ h => h) ?h7 (by assumption) ?r7
      case h7 => (intro w hSw; (try dsimp only at hSw); go_simp; try with_reducible rfl)
      refine wT 9 (v := ?v8) rfl (by kernel_rfl) (fun _ _ _ h => h) ?h8 (by assumption) ?r8
      case h8 => (intro w hSw; (try dsimp only at hSw); go_simp; try with_reducible rfl)
      refine wT 10 (v := ?v9) rfl (by kernel_rfl) (fun _ _ _ h => h) ?h9 (by assumption) ?r9
      case h9 => (intro w hSw; (try dsimp only at hSw); go_simp; try with_reducible rfl)
      try simp only [Act.put, List.setIfInBounds_toArray, List.set_cons_zero, List.set_cons_succ]
      refine wpAnyH_ready (rs := [0]) (by kernel_rfl) (by simp) ?_
      refine AllReadyH.cons (o := ⟨_, _, _, _, _, _⟩) rfl (fun K hK => ?_) AllReadyH.nil
      go_simp
      refine hK.out _ _ (hHeld) (fun hHeld => ?_)
      clear hK K
      try simp only [Act.put, List.setIfInBounds_toArray, List.set_cons_zero, List.set_cons_succ]
      refine wpAnyH_ready (rs := [5]) (by kernel_rfl) (by simp) ?_
      refine AllReadyH.cons (o := ⟨_, _, _, _, _, _⟩) rfl (fun K hK => ?_) AllReadyH.nil
      go_simp
      have S6 : SL V.drew az mz cz L0 := S5.out.drewN 1
      with_reducible refine (p1.out az mz cz V.drew S6).mono ?_
      clear S6
      rintro e u5 ⟨aa, ma, ca, rfl, sa, ba⟩
      have hx6 := hHeld.trans (.of ba)
      have R6 := Lib.hid (R5.out.on (Below.fromDrew ba))
      clear ba
      go_simp
      refine hK.out _ _ (hx6) (fun hHeld => ?_)
      clear hK K
      try simp only [Act.put, List.setIfInBounds_toArray, List.set_cons_zero, List.set_cons_succ]
      refine wpAnyH_ready (rs := [11]) (by kernel_rfl) (by simp) ?_
      refine AllReadyH.cons (o := ⟨_, _, _, _, _, _⟩) rfl (fun K hK => ?_) AllReadyH.nil
      go_simp
      with_reducible refine (p2.out aa ma ca _ sa).mono ?_
      rintro e u11 ⟨ab, mb, cb, rfl, sb, bb, nb⟩
      have hx7 := hHeld.trans (.of (bb.mono hHeld.size))
      have R7 := Lib.hid (R6.out.on bb)
      have nb' := new_far2 nb R6.out.zb.lt
      have nr := Lib.hid (new_far2 nb R6.out.rb.lt)
      have z0 := R7.out.zb.cell 0
      have z1 := R7.out.zb.cell 1
      have zf0 := R7.out.zb.free 0
      have zf1 := R7.out.zb.free 1
      clear bb nb sa R6
      go_simp
      refine hK.out _ _ (hx7) (fun hHeld => ?_)
      clear hK K
      try simp only [Act.put, List.setIfInBounds_toArray, List.set_cons_zero, List.set_cons_succ]
      refine wpAnyH_ready (rs := [12]) (by kernel_rfl) (by simp) ?_
      refine AllReadyH.cons (o := ⟨_, _, _, _, _, _⟩) rfl (fun K hK => ?_) AllReadyH.nil
      go_simp
      have R8 := rb_set R7.out hgz mb ab cb
      have S8 := sl_set sb gz nb' (.int .i64 n) (.slice ab mb cb)
      have hx8 := (hHeld.setIn (p := ⟨gz, 0, none⟩) (by simp) (.int .i64 n)).setIn (p := ⟨gz, 1, none⟩) (by simp) (.slice ab mb cb)
      clear z0 z1 zf0 zf1 R7
      refine hK.out _ _ (hx8) (fun hHeld => ?_)
      clear hK K
      try simp only [Act.put, List.setIfInBounds_toArray, List.set_cons_zero, List.set_cons_succ]
      refine wpAnyH_done (by kernel_rfl) ?_ _
      clear k0 k1 f0 f1
      have R9 := Lib.hid R8
      have S9 := Lib.hid S8
      clear R8 S8 hHeld
      go_wp2
      go_roundw
      case rel => exact ⟨k + 1, ab, mb, cb, by omega, by go_num, R9, by rw [hL.out]; exact S9, by rw [hL.out]; exact nr⟩
      case measure => simp [intOf]; omega
    · have hke : k = n := by omega
      subst hke
      have k0 := hR.out.zb.cell 0
      have k1 := hR.out.zb.cell 1
      have r0 := hR.out.rb.cell 0
      have r1 := hR.out.rb.cell 1
      have f0 := hR.out.rb.free 0
      have f1 := hR.out.rb.free 1
      generalize rbxK k xs k = L at *
      have hfin := Lib.hid (zh_set hR.out.rb (.int .i64 k) (.slice az mz cz))
      have hsl := Lib.hid (sl_set hS.out w.heap.size hN.out (.int .i64 k) (.slice az mz cz))
      have kb := Lib.hid ((hR.out.bl.setCell (p := ⟨w.heap.size, 0, none⟩) (Nat.le_refl _) (.int .i64 k)).setCell (p := ⟨w.heap.size, 1, none⟩) (Nat.le_refl _) (.slice az mz cz))
      go_wp2
      exact zone_ret hfin.out (show ZoneR k L w _ _ from ⟨az, mz, cz, rfl, hsl.out, kb.out⟩) _ _ 2 rfl rfl rfl
end Go.Proofs.YtimgocfkogebmaaGreatDoor
namespace Go.Proofs.YtimgocfkogebmaaGreatDoor
set_option linter.unusedVariables false
set_option linter.unusedSimpArgs false
def hds (S : List Int) (i : Nat) : List Nat := (List.range (i + 1)).filter fun k => decide ((i : Int) - k < S.getD k 0)
def okA (S : List Int) (i : Nat) : Prop := 0 ≤ S.getD i 0 ∧ S.getD i 0 ≤ (S.length : Int) - i ∧ ∀ k, k < i → (i : Int) - k < S.getD k 0 → S.getD i 0 ≤ S.getD k 0 - ((i : Int) - k)
def preA (S : List Int) (i : Nat) : Prop := ∀ j, j < i → okA S j
instance (S : List Int) (i : Nat) : Decidable (okA S i) := by unfold okA; infer_instance
instance (S : List Int) (i : Nat) : Decidable (preA S i) := by unfold preA; infer_instance
def onceP (P : List Int) (m : Nat) : Prop := ∀ i, i < m → 0 ≤ P.getD i 0 ∧ P.getD i 0 ≤ 127 ∧ ∀ k, k < i → P.getD k 0 ≠ P.getD i 0
instance (P : List Int) (m : Nat) : Decidable (onceP P m) := by unfold onceP; infer_instance
end Go.Proofs.YtimgocfkogebmaaGreatDoor
namespace Go.Proofs.YtimgocfkogebmaaGreatDoor
open Go.RowKit
set_option linter.unusedVariables false
set_option linter.unusedSimpArgs false
structure WA (w : World) (a1 : Option Addr) (n1 c1 : Nat) (P : List Int) (a2 : Option Addr) (n2 c2 : Nat) (S : List Int) : Prop where
  p : SL w a1 n1 c1 P
  s : SL w a2 n2 c2 S
theorem WA.below {w w' : World} {a1 a2 : Option Addr} {n1 c1 n2 c2 : Nat} {P S : List Int} (h : WA w a1 n1 c1 P a2 n2 c2 S) (hb : Below w.heap.size w w') : WA w' a1 n1 c1 P a2 n2 c2 S := ⟨h.p.below hb, h.s.below hb⟩
end Go.Proofs.YtimgocfkogebmaaGreatDoor
namespace Go.Proofs.YtimgocfkogebmaaGreatDoor
open Go.RowKit
set_option linter.unusedVariables false
set_option linter.unusedSimpArgs false
theorem seesT_cells {B : Nat} {w : World} {a : Option Addr} {l : List ByteArray} (h : SeesC B w a (txts l)) : SeesT B w a l := by
  rcases h with h | ⟨b, off, rfl, hB, hc⟩
  · left
    cases l with
    | nil => rfl
    | cons x l => cases h
  · exact .inr ⟨b, off, rfl, hB, fun i hi => hc i _ (by simp [txts, List.getD, hi])⟩
end Go.Proofs.YtimgocfkogebmaaGreatDoor
namespace Go.Proofs.YtimgocfkogebmaaGreatDoor
open Go.RowKit
set_option linter.unusedVariables false
set_option linter.unusedSimpArgs false
def guardV : List ByteArray := [⟨#[105]⟩, ⟨#[110]⟩]
def guardS : SpotD := ⟨⟨#[109, 97, 105, 110]⟩, ⟨#[97, 46, 103, 111]⟩, 3⟩
def guardE : EdgeD := ⟨0, 1, 5, 1, 2, 0, 0⟩
def guardD : PD := ⟨⟨#[112]⟩, guardV, [guardS, guardS], [guardE]⟩
def guardL : List (Int × List Int) := [(2, boxL 2 [(0, 3), (2, 2)]), (2, allL 2)]
theorem guardL_all : (allL 2).length = 9 := by decide +kernel
theorem sees_belowE {B : Nat} {w w' : World} {b off g : Nat} {cs : List Value} (h : SeesC B w (some ⟨b, off, none⟩) cs) (hB : B ≤ w.heap.size) (hb : BelowE [g] w.heap.size w w') (hne : b ≠ g) : SeesC B w' (some ⟨b, off, none⟩) cs := by
  rcases h with e | ⟨b', off', he, hlt, hc⟩
  · exact .inl e
  · injection he with he
    injection he with h1 h2
    subst h1 h2
    exact .inr ⟨b, off, rfl, hlt, fun i v hv => (hb.cell (p := ⟨b, off + i, none⟩) (by show b < _; omega) (by simpa using hne)).trans (hc i v hv)⟩
theorem seesN_belowE {B : Nat} {w w' : World} {a : Option Addr} {g : Nat} {l : List Int} (h : Sees .i64 B w a l) (hB : B ≤ w.heap.size) (hb : BelowE [g] w.heap.size w w') (hne : ∀ b off, a = some ⟨b, off, none⟩ → l ≠ [] → b ≠ g) : Sees .i64 B w' a l := by
  by_cases h0 : l = []
  · exact .inl h0
  rcases h with e | ⟨b, off, rfl, hlt, hc⟩
  · exact .inl e
  · exact .inr ⟨b, off, rfl, hlt, fun i hi => (hb.cell (p := ⟨b, off + i, none⟩) (by show b < _; omega) (by simpa using hne b off rfl h0)).trans (hc i hi)⟩
structure GS (W : World) (g0 : Nat) (cs : Array Value) (a1 : Option Addr) (m1 c1 : Nat) (l1 : List Int) (a2 : Option Addr) (m2 c2 : Nat) (l2 : List Int) : Prop where
  p : Holds W g0 38 cs
  s1 : SL W a1 m1 c1 l1
  s2 : SL W a2 m2 c2 l2
theorem GS.below {W W' : World} {g0 : Nat} {cs : Array Value} {a1 a2 : Option Addr} {m1 c1 m2 c2 : Nat} {l1 l2 : List Int} (h : GS W g0 cs a1 m1 c1 l1 a2 m2 c2 l2) (hb : Below W.heap.size W W') : GS W' g0 cs a1 m1 c1 l1 a2 m2 c2 l2 := ⟨h.p.below hb h.p.lt, h.s1.below hb, h.s2.below hb⟩
theorem gs_apart {W : World} {g0 : Nat} {n1 n2 n3 : Nat} {k1 k2 k3 : Nat} {b1 b2 b3 : Option Addr} {s : ByteArray} (h : Holds W g0 38 #[.string s, .slice b1 n1 k1, .slice b2 n2 k2, .slice b3 n3 k3]) {a : Option Addr} {m c : Nat} {l : List Int} (hs : SL W a m c l) (b off : Nat) (ha : a = some ⟨b, off, none⟩) (hl : l ≠ []) : b ≠ g0 := by
  rintro rfl
  obtain ⟨b', off', ha', -, hc⟩ := sees_num hs.sees (i := 0) (List.length_pos_iff.2 hl)
  rw [ha] at ha'
  injection ha' with ha'
  injection ha' with h1 h2
  subst h1 h2
  have q := h.cell (off + 0)
  rw [hc] at q
  have h4 : off + 0 < 4 := by
    rcases Nat.lt_or_ge (off + 0) 4 with h4 | h4
    · exact h4
    · rw [Array.getElem?_eq_none (by simpa using h4)] at q
      cases q
  rcases (show off = 0 ∨ off = 1 ∨ off = 2 ∨ off = 3 by omega) with rfl | rfl | rfl | rfl <;> simp at q
theorem gs_store {W : World} {g0 : Nat} {n1 n2 n3 : Nat} {k1 k2 k3 : Nat} {b1 b2 b3 : Option Addr} {s : ByteArray} {a1 a2 : Option Addr} {m1 c1 m2 c2 : Nat} {l1 l2 : List Int} (h : GS W g0 #[.string s, .slice b1 n1 k1, .slice b2 n2 k2, .slice b3 n3 k3] a1 m1 c1 l1 a2 m2 c2 l2) (u0 u1 u2 u3 : Value) :
    GS ((((W.setCell ⟨g0, 0, none⟩ u0).setCell ⟨g0, 1, none⟩ u1).setCell ⟨g0, 2, none⟩ u2).setCell ⟨g0, 3, none⟩ u3) g0 #[u0, u1, u2, u3] a1 m1 c1 l1 a2 m2 c2 l2 ∧
    BelowE [g0] W.heap.size W ((((W.setCell ⟨g0, 0, none⟩ u0).setCell ⟨g0, 1, none⟩ u1).setCell ⟨g0, 2, none⟩ u2).setCell ⟨g0, 3, none⟩ u3) := by
  have hE : BelowE [g0] W.heap.size W ((((W.setCell ⟨g0, 0, none⟩ u0).setCell ⟨g0, 1, none⟩ u1).setCell ⟨g0, 2, none⟩ u2).setCell ⟨g0, 3, none⟩ u3) := ((((BelowE.refl _ _ _).setIn (p := ⟨g0, 0, none⟩) (by simp) _).setIn (p := ⟨g0, 1, none⟩) (by simp) _).setIn (p := ⟨g0, 2, none⟩) (by simp) _).setIn (p := ⟨g0, 3, none⟩) (by simp) _
  refine ⟨⟨?_, ?_, ?_⟩, hE⟩
  · have := (((h.p.set 0 u0).set 1 u1).set 2 u2).set 3 u3
    simp only [List.setIfInBounds_toArray, List.set_cons_zero, List.set_cons_succ] at this
    exact this
  · exact ⟨h.s1.len, h.s1.cap, h.s1.max, by
      have q := seesN_belowE h.s1.sees (Nat.le_refl _) hE (gs_apart h.p h.s1)
      simpa using q⟩
  · exact ⟨h.s2.len, h.s2.cap, h.s2.max, by
      have q := seesN_belowE h.s2.sees (Nat.le_refl _) hE (gs_apart h.p h.s2)
      simpa using q⟩
theorem info_pr : (Tryz.prog.info? 38).map (·.size) = some 4 := by kernel_rfl
theorem pr_res2 {fn : Func} {p q : Tmp} (h : fn.results = #[.cell p 38, .tmp q]) (tmps : Array Value) (w : World) (g : Nat) (a1 a2 a3 a4 u : Value)
    (hp : tmps.getD p undef = .pointer (some ⟨g, 0, none⟩)) (hq : tmps.getD q undef = u) (hg : Holds w g 38 #[a1, a2, a3, a4]) : (results fn tmps).run Tryz.prog w = .ok (.tuple #[.agg #[a1, a2, a3, a4], u]) w := by
  rw [results_cell_tmp h, hp, hq]
  simp [asAddr, run_loadVar_row w g 38 38 #[a1, a2, a3, a4] (0, 0) _ hg Tryz.underlying38 rfl (by rw [info_pr]; rfl), Result.andThen]
theorem pr_ret2 {Q : Ending → World → Prop} {w : World} {g : Nat} {a1 a2 a3 a4 u : Value} (hg : Holds w g 38 #[a1, a2, a3, a4]) (hQ : Q (.returned (.tuple #[.agg #[a1, a2, a3, a4], u])) w) (act : Act) (f : Func) (n m : Nat) (hf : f.results = #[.cell n 38, .tmp m]) (ha : act.tmps.getD n undef = .pointer (some ⟨g, 0, none⟩)) (hm : act.tmps.getD m undef = u) (hd : act.defers = []) :
    bodyPost Tryz.prog f Q Exit.ret act w :=
  bodyPost_ret (pr_res2 hf _ _ g a1 a2 a3 a4 u ha hm hg) hd hQ
theorem zrow_two {W : World} {g : Nat} {n1 n2 : Int} {a1 a2 : Option Addr} {m1 c1 m2 c2 : Nat} {l1 l2 : List Int} (h : Holds W g 51 #[.int .i64 n1, .slice a1 m1 c1, .int .i64 n2, .slice a2 m2 c2]) (s1 : SL W a1 m1 c1 l1) (s2 : SL W a2 m2 c2 l2) : ZRow W (some ⟨g, 0, none⟩) 2 2 [(n1, l1), (n2, l2)] := by
  refine ⟨rfl, Nat.le_refl _, by simp [maxLen], .inr ⟨g, 0, rfl, h.lt, fun i hi => ?_⟩⟩
  match i, hi with
  | 0, _ => exact ⟨h.cell 0, a1, m1, c1, h.cell 1, s1⟩
  | 1, _ => exact ⟨h.cell 2, a2, m2, c2, h.cell 3, s2⟩
def GuardE (w : World) (e : Ending) (w' : World) : Prop := ∃ (p : PV) (a : Option Addr), e = .returned (.tuple #[.agg #[.string p.nm, .slice p.a1 p.n1 p.c1, .slice p.a2 p.n2 p.c2, .slice p.a3 p.n3 p.c3], .slice a 2 2]) ∧ PrA w' p guardD ∧ ZRow w' a 2 2 guardL ∧ Below w.heap.size w w'
set_option maxRecDepth 100000 in
set_option maxHeartbeats 8000000 in
theorem guard_any (w : World) : Calls Tryz.prog 30 #[] w (GuardE w) := by
  obtain ⟨X1, h1⟩ : ∃ X1, X1 = w.alloc (.cells #[.string ⟨#[]⟩, .slice none 0 0, .slice none 0 0, .slice none 0 0] 38) := ⟨_, rfl⟩
  obtain ⟨X2, h2⟩ : ∃ X2, X2 = X1.alloc (.cells #[.string ⟨#[109, 97, 105, 110]⟩, .string ⟨#[97, 46, 103, 111]⟩, .int .i64 3] 80) := ⟨_, rfl⟩
  obtain ⟨X3, h3⟩ : ∃ X3, X3 = X2.alloc (.cells #[.string ⟨#[105]⟩, .string ⟨#[110]⟩] 9) := ⟨_, rfl⟩
  obtain ⟨X4, h4⟩ : ∃ X4, X4 = X3.alloc (.cells #[.string ⟨#[109, 97, 105, 110]⟩, .string ⟨#[97, 46, 103, 111]⟩, .int .i64 3, .string ⟨#[109, 97, 105, 110]⟩, .string ⟨#[97, 46, 103, 111]⟩, .int .i64 3] 80) := ⟨_, rfl⟩
  obtain ⟨X5, h5⟩ : ∃ X5, X5 = X4.alloc (.cells #[.int .i64 0, .int .i64 1, .int .i64 5, .int .i64 1, .int .i64 2, .int .i64 0, .int .i64 0] 75) := ⟨_, rfl⟩
  obtain ⟨X, h6⟩ : ∃ X, X = X5.alloc (.cells #[.string ⟨#[112]⟩, .slice (some ⟨w.heap.size + 1 + 1, 0, none⟩) 2 2, .slice (some ⟨w.heap.size + 1 + 1 + 1, 0, none⟩) 2 2, .slice (some ⟨w.heap.size + 1 + 1 + 1 + 1, 0, none⟩) 1 1] 38) := ⟨_, rfl⟩
  have z1 : X1.heap.size = w.heap.size + 1 := by rw [h1]; simp
  have z2 : X2.heap.size = w.heap.size + 1 + 1 := by rw [h2]; simp [z1]
  have z3 : X3.heap.size = w.heap.size + 1 + 1 + 1 := by rw [h3]; simp [z2]
  have z4 : X4.heap.size = w.heap.size + 1 + 1 + 1 + 1 := by rw [h4]; simp [z3]
  have z5 : X5.heap.size = w.heap.size + 1 + 1 + 1 + 1 + 1 := by rw [h5]; simp [z4]
  have b1 : Below w.heap.size w X1 := by rw [h1]; exact box_below _ _ _
  have b2 : Below X1.heap.size X1 X2 := by rw [h2]; exact box_below _ _ _
  have b3 : Below X2.heap.size X2 X3 := by rw [h3]; exact box_below _ _ _
  have b4 : Below X3.heap.size X3 X4 := by rw [h4]; exact box_below _ _ _
  have b5 : Below X4.heap.size X4 X5 := by rw [h5]; exact box_below _ _ _
  have b6 : Below X5.heap.size X5 X := by rw [h6]; exact box_below _ _ _
  have b46 := b5.trans (b6.mono b5.size)
  have b36 := b4.trans (b46.mono b4.size)
  have b26 := b3.trans (b36.mono b3.size)
  have b16 := b2.trans (b26.mono b2.size)
  have BX := Lib.hid (b1.trans (b16.mono b1.size))
  have HP0 : Holds X w.heap.size 38 #[.string ⟨#[]⟩, .slice none 0 0, .slice none 0 0, .slice none 0 0] := Holds.below (w := X1) (by rw [h1]; exact Holds.new _ _ _) b16 (by omega)
  have HQ : Holds X (w.heap.size + 1 + 1 + 1 + 1 + 1) 38 #[.string ⟨#[112]⟩, .slice (some ⟨w.heap.size + 1 + 1, 0, none⟩) 2 2, .slice (some ⟨w.heap.size + 1 + 1 + 1, 0, none⟩) 2 2, .slice (some ⟨w.heap.size + 1 + 1 + 1 + 1, 0, none⟩) 1 1] := by rw [← z5, h6]; exact Holds.new _ _ _
  have sv : SeesC X3.heap.size X (some ⟨w.heap.size + 1 + 1, 0, none⟩) [.string ⟨#[105]⟩, .string ⟨#[110]⟩] := SeesC.below (w := X3) (by rw [← z2, h3]; exact seesC_lit _ _ _) b36
  have ss : SeesC X4.heap.size X (some ⟨w.heap.size + 1 + 1 + 1, 0, none⟩) [.string ⟨#[109, 97, 105, 110]⟩, .string ⟨#[97, 46, 103, 111]⟩, .int .i64 3, .string ⟨#[109, 97, 105, 110]⟩, .string ⟨#[97, 46, 103, 111]⟩, .int .i64 3] := SeesC.below (w := X4) (by rw [← z3, h4]; exact seesC_lit _ _ _) b46
  have se : SeesC X5.heap.size X (some ⟨w.heap.size + 1 + 1 + 1 + 1, 0, none⟩) [.int .i64 0, .int .i64 1, .int .i64 5, .int .i64 1, .int .i64 2, .int .i64 0, .int .i64 0] := SeesC.below (w := X5) (by rw [← z4, h5]; exact seesC_lit _ _ _) b6
  have zX : X.heap.size = w.heap.size + 1 + 1 + 1 + 1 + 1 + 1 := by rw [h6]; simp [z5]
  have fin : Hid (∀ W, BelowE [w.heap.size] X.heap.size X W → PrA W ⟨⟨#[112]⟩, some ⟨w.heap.size + 1 + 1, 0, none⟩, 2, 2, some ⟨w.heap.size + 1 + 1 + 1, 0, none⟩, 2, 2, some ⟨w.heap.size + 1 + 1 + 1 + 1, 0, none⟩, 1, 1⟩ guardD ∧ Below w.heap.size w W) := Lib.hid (fun W hW => by
    have v1 := sees_belowE sv (by omega) hW (by omega)
    have v2 := sees_belowE ss (by omega) hW (by omega)
    have v3 := sees_belowE se (by omega) hW (by omega)
    have hsz := hW.size
    refine ⟨⟨rfl, ⟨rfl, Nat.le_refl _, by simp [maxLen], seesT_cells (l := guardV) (v1.mono (by omega))⟩, ⟨rfl, Nat.le_refl _, by simp [maxLen], v2.mono (by omega)⟩, ⟨rfl, Nat.le_refl _, by simp [maxLen], v3.mono (by omega)⟩⟩, ?_⟩
    exact BX.out.trans ⟨hW.os, hW.tape, hW.output, by omega, fun k hk => hW.block k (by omega) (by simp; omega)⟩)
  have HP0' := Lib.hid HP0
  have p0 : ∀ W, BelowE [w.heap.size] X.heap.size X W → W.cell? ⟨w.heap.size + 1 + 1 + 1 + 1 + 1, 0, none⟩ = some (.string ⟨#[112]⟩) := fun W hW => (hW.cell (p := ⟨w.heap.size + 1 + 1 + 1 + 1 + 1, 0, none⟩) HQ.lt (by simp; omega)).trans (HQ.cell 0)
  have p1 : ∀ W, BelowE [w.heap.size] X.heap.size X W → W.cell? ⟨w.heap.size + 1 + 1 + 1 + 1 + 1, 1, none⟩ = some (.slice (some ⟨w.heap.size + 1 + 1, 0, none⟩) 2 2) := fun W hW => (hW.cell (p := ⟨w.heap.size + 1 + 1 + 1 + 1 + 1, 1, none⟩) HQ.lt (by simp; omega)).trans (HQ.cell 1)
  have p2 : ∀ W, BelowE [w.heap.size] X.heap.size X W → W.cell? ⟨w.heap.size + 1 + 1 + 1 + 1 + 1, 2, none⟩ = some (.slice (some ⟨w.heap.size + 1 + 1 + 1, 0, none⟩) 2 2) := fun W hW => (hW.cell (p := ⟨w.heap.size + 1 + 1 + 1 + 1 + 1, 2, none⟩) HQ.lt (by simp; omega)).trans (HQ.cell 2)
  have p3 : ∀ W, BelowE [w.heap.size] X.heap.size X W → W.cell? ⟨w.heap.size + 1 + 1 + 1 + 1 + 1, 3, none⟩ = some (.slice (some ⟨w.heap.size + 1 + 1 + 1 + 1, 0, none⟩) 1 1) := fun W hW => (hW.cell (p := ⟨w.heap.size + 1 + 1 + 1 + 1 + 1, 3, none⟩) HQ.lt (by simp; omega)).trans (HQ.cell 3)
  have q1 := Lib.hid (fun a W hs => rbox_any 2 (by omega) [(0, 3), (2, 2)] rfl a 2 W hs)
  have q2 := Lib.hid (fun W => rall_any 2 (by omega) W)
  simp only [show ((2 : Nat) : Int) = 2 from rfl] at q1 q2
  have hh := Lib.hid (And.intro h1 (And.intro h2 (And.intro h3 (And.intro h4 (And.intro h5 h6)))))
  have hll := Lib.hid guardL_all
  have hgl : Hid (guardL = [(2, boxL 2 [(0, 3), (2, 2)]), (2, allL 2)]) := Lib.hid rfl
  clear z1 z2 z3 z4 z5 zX b1 b2 b3 b4 b5 b6 b46 b36 b26 b16 BX HP0 HQ sv ss se h1 h2 h3 h4 h5 h6
  generalize boxL 2 [(0, 3), (2, 2)] = LB at *
  generalize allL 2 = LA at *
  go_enter Tryz.func30, Tryz.ntmps30
  go_wp2
  rw [← hh.out.1, ← hh.out.2.1, ← hh.out.2.2.1, ← hh.out.2.2.2.1, ← hh.out.2.2.2.2.1, ← hh.out.2.2.2.2.2]
  clear hh
  refine wp_drawn_on (fun W => BelowE [w.heap.size] X.heap.size X W) (by kernel_rfl) ((BelowE.refl _ _ _).drew) (fun hHeld => ?_)
  refine wT 0 (v := ?v1) rfl (by kernel_rfl) (fun _ _ _ h => h) ?h1 (by assumption) ?r1
  case h1 => (intro w hSw; (try dsimp only at hSw); go_simp; try with_reducible rfl)
  refine wT 1 (v := ?v2) rfl (by kernel_rfl) (fun _ _ _ h => h) ?h2 (by assumption) ?r2
  case h2 => (intro w hSw; (try dsimp only at hSw); go_simp; try with_reducible rfl)
  refine wT 2 (v := ?v3) rfl (by kernel_rfl) (fun _ _ _ h => h) ?h3 (by assumption) ?r3
  case h3 => (intro w hSw; (try dsimp only at hSw); go_simp; try with_reducible rfl)
  try simp only [Act.put, List.setIfInBounds_toArray, List.set_cons_zero, List.set_cons_succ]
  refine wpAnyH_ready (rs := [3]) (by kernel_rfl) (by simp) ?_
  refine AllReadyH.cons (o := ⟨_, _, _, _, _, _⟩) rfl (fun K hK => ?_) AllReadyH.nil
  go_simp
  obtain ⟨v3, hv3⟩ : ∃ v3, v3 = (X.alloc (.cells #[.int .i64 0, .int .i64 3, .int .i64 2, .int .i64 2] 101)).drew := ⟨_, rfl⟩
  have hx3 : BelowE [w.heap.size] X.heap.size X v3 := (by rw [hv3]; exact ((BelowE.refl _ _ _).alloc (Nat.le_refl _) _).drew)
  have hI3 := Holds.drew (Holds.new X 101 #[.int .i64 0, .int .i64 3, .int .i64 2, .int .i64 2])
  have hP3 := Holds.drew (HP0'.out.alloc (.cells #[.int .i64 0, .int .i64 3, .int .i64 2, .int .i64 2] 101))
  rw [← hv3] at hI3 hP3
  have hit : ItS v3.heap.size v3 (some ⟨X.heap.size, 0, none⟩) [(0, 3), (2, 2)] := .inr ⟨X.heap.size, 0, rfl, hI3.lt, fun k hk => (match k, hk with | 0, _ => ⟨hI3.cell 0, hI3.cell 1⟩ | 1, _ => ⟨hI3.cell 2, hI3.cell 3⟩)⟩
  rw [← hv3]
  clear hv3
  refine hK.out _ _ (hx3) (fun hHeld => ?_)
  clear hK K
  try simp only [Act.put, List.setIfInBounds_toArray, List.set_cons_zero, List.set_cons_succ]
  refine wpAnyH_ready (rs := [4]) (by kernel_rfl) (by simp) ?_
  refine AllReadyH.cons (o := ⟨_, _, _, _, _, _⟩) rfl (fun K hK => ?_) AllReadyH.nil
  go_simp
  with_reducible refine (q1.out _ _ hit).mono ?_
  rintro e v4 ⟨a1, m1, c1, rfl, s4, b4⟩
  have hP4 := hP3.below b4 hP3.lt
  go_simp
  refine hK.out _ _ (hHeld.trans (BelowE.of (b4.mono hHeld.size))) (fun hHeld => ?_)
  clear hK K
  try simp only [Act.put, List.setIfInBounds_toArray, List.set_cons_zero, List.set_cons_succ]
  refine wpAnyH_ready (rs := [5]) (by kernel_rfl) (by simp) ?_
  refine AllReadyH.cons (o := ⟨_, _, _, _, _, _⟩) rfl (fun K hK => ?_) AllReadyH.nil
  go_simp
  with_reducible refine (q2.out _).mono ?_
  rintro e v5 ⟨a2, c2, rfl, hc5, t5, b5, -⟩
  have hS5 : GS v5 w.heap.size #[.string ⟨#[]⟩, .slice none 0 0, .slice none 0 0, .slice none 0 0] a1 m1 c1 LB a2 LA.length c2 LA := ⟨hP4.below b5 hP4.lt, s4.below b5, ⟨rfl, hc5, (by rw [hll.out]; omega), t5⟩⟩
  go_simp
  refine hK.out _ _ (hHeld.trans (BelowE.of (b5.mono hHeld.size))) (fun hHeld => ?_)
  clear hK K
  try simp only [Act.put, List.setIfInBounds_toArray, List.set_cons_zero, List.set_cons_succ]
  refine wpAnyH_ready (rs := [6, 7]) (by kernel_rfl) (by simp) ?_
  refine AllReadyH.cons (o := ⟨_, _, _, _, _, _⟩) rfl (fun K hK => ?_) (AllReadyH.cons (o := ⟨_, _, _, _, _, _⟩) rfl (fun K hK => ?_) AllReadyH.nil)
  · first | (have hSf := hS7.below (box_below v7 #[.int .i64 2, .slice a1 m1 c1, .int .i64 2, .slice a2 LA.length c2] 51); have hRf := Holds.new v7 51 #[.int .i64 2, .slice a1 m1 c1, .int .i64 2, .slice a2 LA.length c2]; have hx6 := hHeld.alloc hHeld.size (.cells #[.int .i64 2, .slice a1 m1 c1, .int .i64 2, .slice a2 LA.length c2] 51); go_simp; generalize v7.alloc (.cells #[.int .i64 2, .slice a1 m1 c1, .int .i64 2, .slice a2 LA.length c2] 51) = v6 at hSf hRf hx6 ⊢) | (have hS6 := hS5.below (box_below v5 #[.int .i64 2, .slice a1 m1 c1, .int .i64 2, .slice a2 LA.length c2] 51); have hR6 := Holds.new v5 51 #[.int .i64 2, .slice a1 m1 c1, .int .i64 2, .slice a2 LA.length c2]; have hx6 := hHeld.alloc hHeld.size (.cells #[.int .i64 2, .slice a1 m1 c1, .int .i64 2, .slice a2 LA.length c2] 51); go_simp; generalize v5.alloc (.cells #[.int .i64 2, .slice a1 m1 c1, .int .i64 2, .slice a2 LA.length c2] 51) = v6 at hS6 hR6 hx6 ⊢)
    refine hK.out _ _ (hx6) (fun hHeld => ?_)
    clear hK K
    try simp only [Act.put, List.setIfInBounds_toArray, List.set_cons_zero, List.set_cons_succ]
    refine wpAnyH_ready (rs := [7]) (by kernel_rfl) (by simp) ?_
    refine AllReadyH.cons (o := ⟨_, _, _, _, _, _⟩) rfl (fun K hK => ?_) AllReadyH.nil
    first | (have q7 := gs_store hS6 (.string ⟨#[112]⟩) (.slice (some ⟨w.heap.size + 1 + 1, 0, none⟩) 2 2) (.slice (some ⟨w.heap.size + 1 + 1 + 1, 0, none⟩) 2 2) (.slice (some ⟨w.heap.size + 1 + 1 + 1 + 1, 0, none⟩) 1 1); have c0 := hS6.p.cell 0; have c1' := hS6.p.cell 1; have c2' := hS6.p.cell 2; have c3 := hS6.p.cell 3; have f0 := hS6.p.free 0; have f1 := hS6.p.free 1; have f2 := hS6.p.free 2; have f3 := hS6.p.free 3; simp at c0 c1' c2' c3; have hSf := q7.1; have hRf := hR6.belowE q7.2 hR6.lt (by simp; have := hS5.p.lt; omega); have hx7 := hHeld.trans (q7.2.mono hHeld.size); clear q7; go_simp; generalize ((((v6.setCell ⟨w.heap.size, 0, none⟩ (.string ⟨#[112]⟩)).setCell ⟨w.heap.size, 1, none⟩ (.slice (some ⟨w.heap.size + 1 + 1, 0, none⟩) 2 2)).setCell ⟨w.heap.size, 2, none⟩ (.slice (some ⟨w.heap.size + 1 + 1 + 1, 0, none⟩) 2 2)).setCell ⟨w.heap.size, 3, none⟩ (.slice (some ⟨w.heap.size + 1 + 1 + 1 + 1, 0, none⟩) 1 1)) = v7 at hSf hRf hx7 ⊢) | (have q7 := gs_store hS5 (.string ⟨#[112]⟩) (.slice (some ⟨w.heap.size + 1 + 1, 0, none⟩) 2 2) (.slice (some ⟨w.heap.size + 1 + 1 + 1, 0, none⟩) 2 2) (.slice (some ⟨w.heap.size + 1 + 1 + 1 + 1, 0, none⟩) 1 1); have c0 := hS5.p.cell 0; have c1' := hS5.p.cell 1; have c2' := hS5.p.cell 2; have c3 := hS5.p.cell 3; have f0 := hS5.p.free 0; have f1 := hS5.p.free 1; have f2 := hS5.p.free 2; have f3 := hS5.p.free 3; simp at c0 c1' c2' c3; have hS7 := q7.1; have hx7 := hHeld.trans (q7.2.mono hHeld.size); clear q7; go_simp; generalize ((((v5.setCell ⟨w.heap.size, 0, none⟩ (.string ⟨#[112]⟩)).setCell ⟨w.heap.size, 1, none⟩ (.slice (some ⟨w.heap.size + 1 + 1, 0, none⟩) 2 2)).setCell ⟨w.heap.size, 2, none⟩ (.slice (some ⟨w.heap.size + 1 + 1 + 1, 0, none⟩) 2 2)).setCell ⟨w.heap.size, 3, none⟩ (.slice (some ⟨w.heap.size + 1 + 1 + 1 + 1, 0, none⟩) 1 1)) = v7 at hS7 hx7 ⊢)
    refine hK.out _ _ (hx7) (fun hHeld => ?_)
    clear hK K
    refine wT 8 (v := ?v4) rfl (by kernel_rfl) (fun _ _ _ h => h) ?h4 (by assumption) ?r4
    case h4 => (intro w hSw; (try dsimp only at hSw); go_simp; try with_reducible rfl)
    try simp only [Act.put, List.setIfInBounds_toArray, List.set_cons_zero, List.set_cons_succ]
    refine wpAnyH_done (by kernel_rfl) ?_ _
    have hend := Lib.hid (fin.out _ hHeld)
    have hz := Lib.hid (zrow_two hRf hSf.s1 hSf.s2)
    have hSf' := Lib.hid hSf.p
    clear hHeld hRf hSf p0 p1 p2 p3
    go_wp2
    exact pr_ret2 hSf'.out ⟨⟨⟨#[112]⟩, some ⟨w.heap.size + 1 + 1, 0, none⟩, 2, 2, some ⟨w.heap.size + 1 + 1 + 1, 0, none⟩, 2, 2, some ⟨w.heap.size + 1 + 1 + 1 + 1, 0, none⟩, 1, 1⟩, _, rfl, hend.out.1, by rw [hgl.out]; exact hz.out, hend.out.2⟩ _ _ 0 1 rfl rfl rfl rfl
  · first | (have q7 := gs_store hS6 (.string ⟨#[112]⟩) (.slice (some ⟨w.heap.size + 1 + 1, 0, none⟩) 2 2) (.slice (some ⟨w.heap.size + 1 + 1 + 1, 0, none⟩) 2 2) (.slice (some ⟨w.heap.size + 1 + 1 + 1 + 1, 0, none⟩) 1 1); have c0 := hS6.p.cell 0; have c1' := hS6.p.cell 1; have c2' := hS6.p.cell 2; have c3 := hS6.p.cell 3; have f0 := hS6.p.free 0; have f1 := hS6.p.free 1; have f2 := hS6.p.free 2; have f3 := hS6.p.free 3; simp at c0 c1' c2' c3; have hSf := q7.1; have hRf := hR6.belowE q7.2 hR6.lt (by simp; have := hS5.p.lt; omega); have hx7 := hHeld.trans (q7.2.mono hHeld.size); clear q7; go_simp; generalize ((((v6.setCell ⟨w.heap.size, 0, none⟩ (.string ⟨#[112]⟩)).setCell ⟨w.heap.size, 1, none⟩ (.slice (some ⟨w.heap.size + 1 + 1, 0, none⟩) 2 2)).setCell ⟨w.heap.size, 2, none⟩ (.slice (some ⟨w.heap.size + 1 + 1 + 1, 0, none⟩) 2 2)).setCell ⟨w.heap.size, 3, none⟩ (.slice (some ⟨w.heap.size + 1 + 1 + 1 + 1, 0, none⟩) 1 1)) = v7 at hSf hRf hx7 ⊢) | (have q7 := gs_store hS5 (.string ⟨#[112]⟩) (.slice (some ⟨w.heap.size + 1 + 1, 0, none⟩) 2 2) (.slice (some ⟨w.heap.size + 1 + 1 + 1, 0, none⟩) 2 2) (.slice (some ⟨w.heap.size + 1 + 1 + 1 + 1, 0, none⟩) 1 1); have c0 := hS5.p.cell 0; have c1' := hS5.p.cell 1; have c2' := hS5.p.cell 2; have c3 := hS5.p.cell 3; have f0 := hS5.p.free 0; have f1 := hS5.p.free 1; have f2 := hS5.p.free 2; have f3 := hS5.p.free 3; simp at c0 c1' c2' c3; have hS7 := q7.1; have hx7 := hHeld.trans (q7.2.mono hHeld.size); clear q7; go_simp; generalize ((((v5.setCell ⟨w.heap.size, 0, none⟩ (.string ⟨#[112]⟩)).setCell ⟨w.heap.size, 1, none⟩ (.slice (some ⟨w.heap.size + 1 + 1, 0, none⟩) 2 2)).setCell ⟨w.heap.size, 2, none⟩ (.slice (some ⟨w.heap.size + 1 + 1 + 1, 0, none⟩) 2 2)).setCell ⟨w.heap.size, 3, none⟩ (.slice (some ⟨w.heap.size + 1 + 1 + 1 + 1, 0, none⟩) 1 1)) = v7 at hS7 hx7 ⊢)
    refine hK.out _ _ (hx7) (fun hHeld => ?_)
    clear hK K
    try simp only [Act.put, List.setIfInBounds_toArray, List.set_cons_zero, List.set_cons_succ]
    refine wpAnyH_ready (rs := [6]) (by kernel_rfl) (by simp) ?_
    refine AllReadyH.cons (o := ⟨_, _, _, _, _, _⟩) rfl (fun K hK => ?_) AllReadyH.nil
    first | (have hSf := hS7.below (box_below v7 #[.int .i64 2, .slice a1 m1 c1, .int .i64 2, .slice a2 LA.length c2] 51); have hRf := Holds.new v7 51 #[.int .i64 2, .slice a1 m1 c1, .int .i64 2, .slice a2 LA.length c2]; have hx6 := hHeld.alloc hHeld.size (.cells #[.int .i64 2, .slice a1 m1 c1, .int .i64 2, .slice a2 LA.length c2] 51); go_simp; generalize v7.alloc (.cells #[.int .i64 2, .slice a1 m1 c1, .int .i64 2, .slice a2 LA.length c2] 51) = v6 at hSf hRf hx6 ⊢) | (have hS6 := hS5.below (box_below v5 #[.int .i64 2, .slice a1 m1 c1, .int .i64 2, .slice a2 LA.length c2] 51); have hR6 := Holds.new v5 51 #[.int .i64 2, .slice a1 m1 c1, .int .i64 2, .slice a2 LA.length c2]; have hx6 := hHeld.alloc hHeld.size (.cells #[.int .i64 2, .slice a1 m1 c1, .int .i64 2, .slice a2 LA.length c2] 51); go_simp; generalize v5.alloc (.cells #[.int .i64 2, .slice a1 m1 c1, .int .i64 2, .slice a2 LA.length c2] 51) = v6 at hS6 hR6 hx6 ⊢)
    refine hK.out _ _ (hx6) (fun hHeld => ?_)
    clear hK K
    refine wT 8 (v := ?v5) rfl (by kernel_rfl) (fun _ _ _ h => h) ?h5 (by assumption) ?r5
    case h5 => (intro w hSw; (try dsimp only at hSw); go_simp; try with_reducible rfl)
    try simp only [Act.put, List.setIfInBounds_toArray, List.set_cons_zero, List.set_cons_succ]
    refine wpAnyH_done (by kernel_rfl) ?_ _
    have hend := Lib.hid (fin.out _ hHeld)
    have hz := Lib.hid (zrow_two hRf hSf.s1 hSf.s2)
    have hSf' := Lib.hid hSf.p
    clear hHeld hRf hSf p0 p1 p2 p3
    go_wp2
    exact pr_ret2 hSf'.out ⟨⟨⟨#[112]⟩, some ⟨w.heap.size + 1 + 1, 0, none⟩, 2, 2, some ⟨w.heap.size + 1 + 1 + 1, 0, none⟩, 2, 2, some ⟨w.heap.size + 1 + 1 + 1 + 1, 0, none⟩, 1, 1⟩, _, rfl, hend.out.1, by rw [hgl.out]; exact hz.out, hend.out.2⟩ _ _ 0 1 rfl rfl rfl rfl
end Go.Proofs.YtimgocfkogebmaaGreatDoor
namespace Go.Proofs.YtimgocfkogebmaaGreatDoor
open Go.RowKit
set_option linter.unusedVariables false
set_option linter.unusedSimpArgs false
theorem p3_mk (w : World) (zn zm rn rm : Value) (st : Array Value) : P3 w (((w.alloc (.cells #[zn, zm] 51)).alloc (.cells st 73)).alloc (.cells #[rn, rm] 51)) zn zm st rn rm := by
  refine ⟨((box_below _ _ _).alloc (by simp) _).alloc (by simp; omega) _, ((Holds.new w _ _).alloc _).alloc _, ?_, ?_⟩
  · have := (Holds.new (w.alloc (.cells #[zn, zm] 51)) 73 st).alloc (.cells #[rn, rm] 51)
    simpa using this
  · have := Holds.new ((w.alloc (.cells #[zn, zm] 51)).alloc (.cells st 73)) 51 #[rn, rm]
    simpa using this
set_option maxRecDepth 100000 in
set_option maxHeartbeats 400000 in
theorem rfault_1 (n : Nat) (l : List Int) (x y c d : Int) (a : Option Addr) (m ca : Nat) (w : World) (h : SL w a m ca l) : Calls Tryz.prog 48 #[.agg #[.int .i64 n, .slice a m ca], .agg #[.int .i64 1, .int .i64 x, .int .i64 y, .int .i64 c, .int .i64 d]] w (ZoneR n [] w) := by
  have X := Lib.hid (p3_mk w (.int .i64 n) (.slice a m ca) (.int .i64 n) (.slice none 0 0) #[.int .i64 1, .int .i64 x, .int .i64 y, .int .i64 c, .int .i64 d])
  have hS := Lib.hid (h.below X.out.bl)
  clear h
  go_enter Tryz.func48, Tryz.ntmps48
  go_wp2
  exact zone_ret X.out.r ⟨none, 0, 0, rfl, SL.nil _, X.out.bl⟩ _ _ 4 rfl rfl rfl
set_option maxRecDepth 100000 in
set_option maxHeartbeats 400000 in
theorem rfault_2 (n : Nat) (l : List Int) (x y c d : Int) (a : Option Addr) (m ca : Nat) (w : World) (h : SL w a m ca l) : Calls Tryz.prog 48 #[.agg #[.int .i64 n, .slice a m ca], .agg #[.int .i64 2, .int .i64 x, .int .i64 y, .int .i64 c, .int .i64 d]] w (ZoneR n [] w) := by
  have X := Lib.hid (p3_mk w (.int .i64 n) (.slice a m ca) (.int .i64 n) (.slice none 0 0) #[.int .i64 2, .int .i64 x, .int .i64 y, .int .i64 c, .int .i64 d])
  have hS := Lib.hid (h.below X.out.bl)
  clear h
  go_enter Tryz.func48, Tryz.ntmps48
  go_wp2
  exact zone_ret X.out.r ⟨none, 0, 0, rfl, SL.nil _, X.out.bl⟩ _ _ 4 rfl rfl rfl
set_option maxRecDepth 100000 in
set_option maxHeartbeats 400000 in
theorem rfault_3 (n : Nat) (l : List Int) (x y c d : Int) (a : Option Addr) (m ca : Nat) (w : World) (h : SL w a m ca l) : Calls Tryz.prog 48 #[.agg #[.int .i64 n, .slice a m ca], .agg #[.int .i64 3, .int .i64 x, .int .i64 y, .int .i64 c, .int .i64 d]] w (ZoneR n [] w) := by
  have X := Lib.hid (p3_mk w (.int .i64 n) (.slice a m ca) (.int .i64 n) (.slice none 0 0) #[.int .i64 3, .int .i64 x, .int .i64 y, .int .i64 c, .int .i64 d])
  have hS := Lib.hid (h.below X.out.bl)
  clear h
  go_enter Tryz.func48, Tryz.ntmps48
  go_wp2
  exact zone_ret X.out.r ⟨none, 0, 0, rfl, SL.nil _, X.out.bl⟩ _ _ 4 rfl rfl rfl
set_option maxRecDepth 100000 in
set_option maxHeartbeats 400000 in
theorem rfault_4 (n : Nat) (l : List Int) (x y c d : Int) (a : Option Addr) (m ca : Nat) (w : World) (h : SL w a m ca l) : Calls Tryz.prog 48 #[.agg #[.int .i64 n, .slice a m ca], .agg #[.int .i64 4, .int .i64 x, .int .i64 y, .int .i64 c, .int .i64 d]] w (ZoneR n [] w) := by
  have X := Lib.hid (p3_mk w (.int .i64 n) (.slice a m ca) (.int .i64 n) (.slice none 0 0) #[.int .i64 4, .int .i64 x, .int .i64 y, .int .i64 c, .int .i64 d])
  have hS := Lib.hid (h.below X.out.bl)
  clear h
  go_enter Tryz.func48, Tryz.ntmps48
  go_wp2
  exact zone_ret X.out.r ⟨none, 0, 0, rfl, SL.nil _, X.out.bl⟩ _ _ 4 rfl rfl rfl
set_option maxRecDepth 100000 in
set_option maxHeartbeats 400000 in
theorem rfault_5 (n : Nat) (l : List Int) (hz : IsZ n l) (X Y : Nat) (hx : X ≤ n) (hy : Y ≤ n) (c : Int) (hc : -1099511627776 ≤ c ∧ c ≤ 1099511627776) (a : Option Addr) (m ca : Nat) (w : World) (h : SL w a m ca l) : Calls Tryz.prog 48 #[.agg #[.int .i64 n, .slice a m ca], .agg #[.int .i64 5, .int .i64 X, .int .i64 Y, .int .i64 c, .int .i64 0]] w (ZoneR n (limitL n l Y X (-c - 1)) w) := by
  obtain ⟨W1, hW1⟩ : ∃ W1, W1 = ((w.alloc (.cells #[.int .i64 n, .slice a m ca] 51)).alloc (.cells #[.int .i64 5, .int .i64 X, .int .i64 Y, .int .i64 c, .int .i64 0] 73)).alloc (.cells #[.int .i64 0, .slice none 0 0] 51) := ⟨_, rfl⟩
  have X1 : P3 w W1 (.int .i64 n) (.slice a m ca) #[.int .i64 5, .int .i64 X, .int .i64 Y, .int .i64 c, .int .i64 0] (.int .i64 0) (.slice none 0 0) := by rw [hW1]; exact p3_new _ _ _ _
  have hW1' := Lib.hid hW1
  have XP := Lib.hid X1
  have k0 := X1.z.cell 0
  have k1 := X1.z.cell 1
  have s0 := X1.s.cell 0
  have s1 := X1.s.cell 1
  have s2 := X1.s.cell 2
  have s3 := X1.s.cell 3
  have s4 := X1.s.cell 4
  have wr1 : IntKind.i64.wrap (-c) = -c := by simp [IntKind.wrap, IntKind.bits, IntKind.signed]; omega
  have wr2 : IntKind.i64.wrap (-c - 1) = -c - 1 := by simp [IntKind.wrap, IntKind.bits, IntKind.signed]; omega
  have q := Lib.hid (rlim_any n l hz Y X hy hx (-c - 1) a m ca W1 (h.below X1.bl))
  clear hW1 X1 h hz
  generalize (limitL n l Y X (-c - 1)) = R at *
  go_enter Tryz.func48, Tryz.ntmps48
  go_wp2_with fail
  rw [← hW1'.out]
  refine q.out.mono ?_
  rintro e w7 ⟨a7, m7, c7, rfl, s7, b7, nw7⟩
  have Zd := XP.out.r.below b7 XP.out.r.lt
  have y0 := Zd.cell 0
  have y1 := Zd.cell 1
  have f0 := Zd.free 0
  have f1 := Zd.free 1
  have hfin := Lib.hid (zone_putN (n := n) XP.out.bl (by omega) XP.out.r s7 b7 nw7)
  clear Zd q k0 k1 s0 s1 s2 s3 s4 hW1'
  go_wp2
  exact zone_ret hfin.out.1 hfin.out.2.r _ _ 4 rfl rfl rfl
theorem rfault_any (n : Nat) (k x y c d : Int) (l : List Int) (hz : IsZ n l) (hr : rightB k x y c d n = true) (a : Option Addr) (m ca : Nat) (w : World) (h : SL w a m ca l) : Calls Tryz.prog 48 #[.agg #[.int .i64 n, .slice a m ca], .agg #[.int .i64 k, .int .i64 x, .int .i64 y, .int .i64 c, .int .i64 d]] w (ZoneR n (faultL n l k x y c) w) := by
  have hw := way_of hr
  cases hw with
  | skip => exact rfault_1 n l _ _ _ _ a m ca w h
  | set X Y c h1 h2 h3 h4 => exact rfault_2 n l _ _ _ _ a m ca w h
  | pick X c d h1 h2 h3 h4 h5 => exact rfault_3 n l _ _ _ _ a m ca w h
  | limit X Y c h1 h2 h3 h4 => exact rfault_4 n l _ _ _ _ a m ca w h
  | check X Y c h1 h2 h3 h4 => exact rfault_5 n l hz X Y h1 h2 c (isVal_in h4) a m ca w h
end Go.Proofs.YtimgocfkogebmaaGreatDoor
namespace Go.Proofs.YtimgocfkogebmaaGreatDoor
open Go.RowKit
set_option linter.unusedVariables false
theorem limit_nil {n : Nat} {l : List Int} (hz : IsZ n l) (hF : Full n l) {X Y : Nat} (hX : X ≤ n) (hY : Y ≤ n) (c : Int) : limitL n l X Y c = [] ↔ mat n l Y X ≤ -c - 1 := by
  have hne := hF.ne
  constructor
  · intro e
    by_cases hq : mat n l Y X ≤ -c - 1
    · exact hq
    exfalso
    have hh : Has n l (pointL n l X) := by
      refine ⟨hne, point_near hF hX, ?_⟩
      intro i j hi hj
      unfold difF
      rw [point_at hF hi hX, point_at hF hj hX]
      have := hF.closed.tri i X j hi hX hj
      omega
    have h2 : Has n (limitL n l X Y c) (pointL n l X) := by
      rw [has_limit hz hX hY c]
      refine ⟨hh, ?_⟩
      unfold difF
      rw [point_at hF hX hX, point_at hF hY hX, hF.closed.zero X hX]
      omega
    exact h2.1 e
  · intro hq
    by_cases e : limitL n l X Y c = []
    · exact e
    exfalso
    have hD : Full n (limitL n l X Y c) := (limitL_isz hz.1 l X Y c).2.resolve_left e
    have h1 : Lies n (limitL n l X Y c) (limitL n l X Y c) := ⟨e, fun i j _ _ => Int.le_refl _⟩
    obtain ⟨⟨-, h2⟩, h3⟩ := (lies_limit hD hz hX hY c).1 h1
    have h4 := h2 Y X hY hX
    have h5 := hD.closed.tri X X Y hX hX hY
    have h6 := hD.closed.zero X hX
    omega
theorem limit_all {n : Nat} {l : List Int} (hz : IsZ n l) (hF : Full n l) {X Y : Nat} (hX : X ≤ n) (hY : Y ≤ n) (c : Int) : limitL n l X Y c = l ↔ mat n l X Y ≤ c := by
  have hne := hF.ne
  constructor
  · intro e
    have h1 : Lies n l (limitL n l X Y c) := by rw [e]; exact ⟨hne, fun i j _ _ => Int.le_refl _⟩
    exact ((lies_limit hF hz hX hY c).1 h1).2
  · intro hq
    refine lies_ext (limitL_isz hz.1 l X Y c) hz fun D hD => ?_
    rw [lies_limit hD hz hX hY c]
    exact ⟨fun h => h.1, fun h => ⟨h, Int.le_trans (h.2 X Y hX hY) hq⟩⟩
theorem must_is {n : Nat} {l : List Int} (hz : IsZ n l) {k x y c d : Int} (hr : rightB k x y c d n = true) : (decide (postL n l k x y c d = []) && !decide (faultL n l k x y c = [])) = (!decide (faultL n l k x y c = []) && decide (faultL n l k x y c = l)) := by
  by_cases hf : faultL n l k x y c = []
  · rw [decide_eq_true hf]; simp
  rw [decide_eq_false hf]
  have hw := way_of hr
  cases hw with
  | skip => exact absurd (by unfold faultL; rfl) hf
  | set X Y c _ _ _ _ => exact absurd (by unfold faultL; rfl) hf
  | pick X c d _ _ _ _ _ => exact absurd (by unfold faultL; rfl) hf
  | limit X Y c _ _ _ _ => exact absurd (by unfold faultL; rfl) hf
  | check X Y c hX hY hXY hc =>
    have e1 : faultL n l 5 X Y c = limitL n l Y X (-c - 1) := by unfold faultL; rw [if_pos rfl]; simp
    have e2 : postL n l 5 X Y c 0 = limitL n l X Y c := by unfold postL; simp
    rw [e1] at hf ⊢
    rw [e2]
    have hne : l ≠ [] := fun e => hf (by subst e; unfold limitL stepL; simp)
    have hF := hz.2.resolve_left hne
    have h1 := limit_nil hz hF hX hY c
    have h2 := limit_all hz hF hY hX (-c - 1)
    rw [Bool.not_false, Bool.and_true, Bool.true_and, decide_eq_decide, h1, h2]
end Go.Proofs.YtimgocfkogebmaaGreatDoor
namespace Go.Proofs.YtimgocfkogebmaaGreatDoor
open Go.RowKit
set_option linter.unusedVariables false
set_option linter.unusedSimpArgs false
theorem rvshow_any (c : Int) (h0 : -1099511627776 ≤ c) (h1 : c ≤ 1099511627776) (w : World) : Calls Tryz.prog 94 #[.int .i64 c] w (Gives (.string (vT c)) w) := by
  refine (refshow_any c (by omega) (by omega) w).mono ?_
  rintro e w' ⟨rfl, rfl⟩
  exact ⟨by rw [vT_eq h0 h1], Below.refl _ _⟩
set_option maxRecDepth 100000 in
set_option maxHeartbeats 2000000 in
theorem rdifference_any (a : Option Addr) (n cp : Nat) (l : List ByteArray) (hl : ∀ s ∈ l, s.size ≤ 32) (x y : Int) (hx0 : 0 ≤ x) (hx : x ≤ (n : Int)) (hy0 : 0 ≤ y) (hy : y ≤ (n : Int)) (hxy : x ≠ y) (w : World) (h : TT w a n cp l) : Calls Tryz.prog 95 #[.slice a n cp, .int .i64 x, .int .i64 y] w (Gives (.string (diffT l x y)) w) := by
  have s1 := name_sz hl x
  have s2 := name_sz hl y
  have hn : (n : Int) ≤ 9223372036854775807 := by have := h.cap; have := h.max; unfold maxLen at this; omega
  by_cases h1 : y = 0
  · have hR : Hid (diffT l x y = nmV l x) := Lib.hid (by unfold diffT; rw [if_pos h1])
    obtain ⟨i, b, off, rfl, hi, rfl, hb, x0⟩ := name_at h (by omega) hx
    subst h1
    have hii : (i : Int) < (n : Int) := by omega
    generalize nmV l ((i : Int) + 1) = s at *
    generalize diffT l ((i : Int) + 1) 0 = R at *
    clear h hl
    go_enter Tryz.func95, Tryz.ntmps95
    go_wp2
    go_ret
    rw [hR.out]
    exact ⟨rfl, Below.refl _ _⟩
  · by_cases h2 : x = 0
    · have hR : Hid (diffT l x y = (⟨#[45]⟩ : ByteArray) ++ nmV l y) := Lib.hid (by unfold diffT; rw [if_neg h1, if_pos h2])
      obtain ⟨i, b, off, rfl, hi, rfl, hb, x0⟩ := name_at h (by omega) hy
      subst h2
      have hii : (i : Int) < (n : Int) := by omega
      have h1' : ¬ ((i : Int) + 1 = 0) := by omega
      generalize nmV l ((i : Int) + 1) = s at *
      generalize diffT l 0 ((i : Int) + 1) = R at *
      have z1 : ¬ 9223372036854775807 < 1 + s.size := by omega
      clear h hl
      go_enter Tryz.func95, Tryz.ntmps95
      go_wp2
      go_ret
      rw [hR.out]
      exact ⟨rfl, Below.refl _ _⟩
    · have hR : Hid (diffT l x y = (nmV l x ++ (⟨#[32, 45, 32]⟩ : ByteArray)) ++ nmV l y) := Lib.hid (by unfold diffT; rw [if_neg h1, if_neg h2])
      obtain ⟨i, b, off, rfl, hi, rfl, hb, x0⟩ := name_at h (by omega) hx
      obtain ⟨j, b2, off2, rfl, hj, e2, hb2, y0⟩ := name_at h (by omega) hy
      injection e2 with e2
      injection e2 with e3 e4
      subst e3 e4
      have hii : (i : Int) < (n : Int) := by omega
      have hji : (j : Int) < (n : Int) := by omega
      have h1' : ¬ ((j : Int) + 1 = 0) := by omega
      have h2' : ¬ ((i : Int) + 1 = 0) := by omega
      generalize nmV l ((i : Int) + 1) = s at *
      generalize nmV l ((j : Int) + 1) = u at *
      generalize diffT l ((i : Int) + 1) ((j : Int) + 1) = R at *
      have z1 : ¬ 9223372036854775807 < s.size + 3 := by omega
      have z2 : ¬ 9223372036854775807 < s.size + 3 + u.size := by omega
      have w1 : IntKind.i64.wrap (i : Int) = i := by rw [IntKind.wrap_i64]; omega
      have w2 : IntKind.i64.wrap (j : Int) = j := by rw [IntKind.wrap_i64]; omega
      have n1 : 0 ≤ (i : Int) := by omega
      have n2 : 0 ≤ (j : Int) := by omega
      clear h hl hxy
      go_enter Tryz.func95, Tryz.ntmps95
      go_wp2
      go_quiet (fail)
      go_wp2
      go_ret
      rw [hR.out]
      exact ⟨rfl, Below.drewN (Below.refl _ _) nq⟩
def rletT (l : List ByteArray) (y c : Int) : ByteArray := if y = 0 then vT c else if c = 0 then nmV l y else if c < 0 then (nmV l y ++ (⟨#[32, 45, 32]⟩ : ByteArray)) ++ vT (-c) else (nmV l y ++ (⟨#[32, 43, 32]⟩ : ByteArray)) ++ vT c
theorem rlet_sz {l : List ByteArray} (hl : ∀ s ∈ l, s.size ≤ 32) (y c : Int) : (rletT l y c).size ≤ 49 := by
  have v1 := vT_size c
  have v2 := vT_size (-c)
  have n1 := name_sz hl y
  have a2 : (⟨#[32, 45, 32]⟩ : ByteArray).size = 3 := rfl
  have a3 : (⟨#[32, 43, 32]⟩ : ByteArray).size = 3 := rfl
  unfold rletT
  split
  · omega
  · split
    · omega
    · split <;> (simp only [ByteArray.size_append]; omega)
set_option maxRecDepth 100000 in
set_option maxHeartbeats 4000000 in
theorem rlet_any (a : Option Addr) (n cp : Nat) (l : List ByteArray) (hl : ∀ s ∈ l, s.size ≤ 32) (y c : Int) (hy0 : 0 ≤ y) (hy : y ≤ (n : Int)) (h0 : -1099511627776 ≤ c) (h1 : c ≤ 1099511627776) (w : World) (h : TT w a n cp l) : Calls Tryz.prog 93 #[.slice a n cp, .int .i64 y, .int .i64 c] w (Gives (.string (rletT l y c)) w) := by
  have q1 := Lib.hid (fun W => rvshow_any c h0 h1 W)
  have q2 := Lib.hid (fun W => rvshow_any (-c) (by omega) (by omega) W)
  have s1 := vT_size c
  have s2 := vT_size (-c)
  have s3 := name_sz hl y
  have hn : (n : Int) ≤ 9223372036854775807 := by have := h.cap; have := h.max; unfold maxLen at this; omega
  have hL : Hid (rletT l y c = if y = 0 then vT c else if c = 0 then nmV l y else if c < 0 then (nmV l y ++ (⟨#[32, 45, 32]⟩ : ByteArray)) ++ vT (-c) else (nmV l y ++ (⟨#[32, 43, 32]⟩ : ByteArray)) ++ vT c) := Lib.hid rfl
  have w3 : IntKind.i64.wrap (-c) = -c := by rw [IntKind.wrap_i64]; omega
  by_cases hy1 : y = 0
  · have hR : Hid (rletT l y c = vT c) := Lib.hid (by rw [hL.out, if_pos hy1])
    subst hy1
    generalize rletT l 0 c = R at *
    generalize vT c = v at *
    clear hL h hl q2
    go_enter Tryz.func93, Tryz.ntmps93
    go_wp2_with fail
    refine (q1.out _).mono ?_
    rintro e w2 ⟨rfl, b2⟩
    go_wp2
    go_ret
    rw [hR.out]
    exact ⟨rfl, b2⟩
  obtain ⟨j, b, off, rfl, hj, rfl, hbj, y0⟩ := name_at h (by omega) hy
  have hji : (j : Int) < (n : Int) := by omega
  have w2 : IntKind.i64.wrap (j : Int) = j := by rw [IntKind.wrap_i64]; omega
  have n2 : 0 ≤ (j : Int) := by omega
  have hy1' : ¬ ((j : Int) + 1 = 0) := by omega
  have hL2 : Hid (rletT l ((j : Int) + 1) c = if c = 0 then nmV l ((j : Int) + 1) else if c < 0 then (nmV l ((j : Int) + 1) ++ (⟨#[32, 45, 32]⟩ : ByteArray)) ++ vT (-c) else (nmV l ((j : Int) + 1) ++ (⟨#[32, 43, 32]⟩ : ByteArray)) ++ vT c) := Lib.hid (by rw [hL.out, if_neg hy1])
  clear hL hy1
  generalize rletT l ((j : Int) + 1) c = R at *
  have gy : ∀ W, Below w.heap.size w W → W.cell? ⟨b, off + j, none⟩ = some (.string (nmV l ((j : Int) + 1))) := fun W hW => (hW.cell (p := ⟨b, off + j, none⟩) hbj).trans y0
  generalize nmV l ((j : Int) + 1) = r at *
  generalize vT c = v at *
  generalize vT (-c) = u at *
  have z3 : ¬ 9223372036854775807 < r.size + 3 := by omega
  have z4 : ¬ 9223372036854775807 < r.size + 3 + v.size := by omega
  have z5 : ¬ 9223372036854775807 < r.size + 3 + u.size := by omega
  by_cases hc0 : c = 0
  · have hR : Hid (R = r) := Lib.hid (by rw [hL2.out, if_pos hc0])
    subst hc0
    clear hL2 h hl q1 q2 gy
    go_enter Tryz.func93, Tryz.ntmps93
    go_wp2
    go_ret
    rw [hR.out]
    exact ⟨rfl, Below.refl _ _⟩
  by_cases hcn : c < 0
  · have hR : Hid (R = (r ++ (⟨#[32, 45, 32]⟩ : ByteArray)) ++ u) := Lib.hid (by rw [hL2.out, if_neg hc0, if_pos hcn])
    clear hL2 h hl y0
    go_enter Tryz.func93, Tryz.ntmps93
    go_wp2
    refine wp_drawn_on (fun W => Below w.heap.size w W) (by kernel_rfl) ((Below.refl _ _).drew) (fun hHeld => ?_)
    refine wT 0 (v := ?v1) rfl (by kernel_rfl) (fun _ _ _ h => h) ?h1 (by assumption) ?r1
    case h1 => (intro w hSw; (try dsimp only at hSw); go_simp; try with_reducible rfl)
    refine wT 1 (v := ?v2) rfl (by kernel_rfl) (fun _ _ _ h => h) ?h2 (by assumption) ?r2
    case h2 => (intro w hSw; (try dsimp only at hSw); go_simp; try with_reducible rfl)
    refine wT 2 (v := ?v3) rfl (by kernel_rfl) (fun _ _ _ h => h) ?h3 (by assumption) ?r3
    case h3 => (intro w hSw; (try dsimp only at hSw); go_simp; try with_reducible rfl)
    refine wT 3 (v := ?v4) rfl (by kernel_rfl) (fun _ _ _ h => h) ?h4 (by assumption) ?r4
    case h4 => (intro w hSw; (try dsimp only at hSw); go_simp; try with_reducible rfl)
    refine wT 4 (v := ?v5) rfl (by kernel_rfl) (fun _ _ _ h => h) ?h5 (by assumption) ?r5
    case h5 => (intro w hSw; (try dsimp only at hSw); go_simp; try with_reducible rfl)
    refine wT 5 (v := ?v6) rfl (by kernel_rfl) (fun _ _ _ h => h) ?h6 (by assumption) ?r6
    case h6 => (intro w hSw; (try dsimp only at hSw); go_simp; try with_reducible rfl)
    refine wT 6 (v := ?v7) rfl (by kernel_rfl) (fun _ _ _ h => h) ?h7 (by assumption) ?r7
    case h7 => (intro w hSw; (try dsimp only at hSw); go_simp; try with_reducible rfl)
    refine wT 7 (v := ?v8) rfl (by kernel_rfl) (fun _ _ _ h => h) ?h8 (by assumption) ?r8
    case h8 => (intro w hSw; (try dsimp only at hSw); go_simp; try with_reducible rfl)
    try simp only [Act.put, List.setIfInBounds_toArray, List.set_cons_zero, List.set_cons_succ]
    refine wpAnyH_ready (rs := [8]) (by kernel_rfl) (by simp) ?_
    refine AllReadyH.cons (o := ⟨_, _, _, _, _, _⟩) rfl (fun K hK => ?_) AllReadyH.nil
    go_simp
    with_reducible refine (q2.out _).mono ?_
    rintro e t8 ⟨rfl, b8⟩
    go_simp
    refine hK.out _ _ (hHeld.trans (b8.mono hHeld.size)) (fun hHeld => ?_)
    clear hK K
    refine wT 9 (v := ?v9) rfl (by kernel_rfl) (fun _ _ _ h => h) ?h9 (by assumption) ?r9
    case h9 => (intro w hSw; (try dsimp only at hSw); go_simp; try with_reducible rfl)
    refine wT 10 (v := ?v10) rfl (by kernel_rfl) (fun _ _ _ h => h) ?h10 (by assumption) ?r10
    case h10 => (intro w hSw; (try dsimp only at hSw); go_simp; try with_reducible rfl)
    try simp only [Act.put, List.setIfInBounds_toArray, List.set_cons_zero, List.set_cons_succ]
    refine wpAnyH_done (by kernel_rfl) ?_ _
    go_wp2
    go_ret
    rw [hR.out]
    exact ⟨rfl, hHeld⟩
  have hR : Hid (R = (r ++ (⟨#[32, 43, 32]⟩ : ByteArray)) ++ v) := Lib.hid (by rw [hL2.out, if_neg hc0, if_neg hcn])
  clear hL2 h hl y0
  go_enter Tryz.func93, Tryz.ntmps93
  go_wp2
  refine wp_drawn_on (fun W => Below w.heap.size w W) (by kernel_rfl) ((Below.refl _ _).drew) (fun hHeld => ?_)
  refine wT 0 (v := ?v11) rfl (by kernel_rfl) (fun _ _ _ h => h) ?h11 (by assumption) ?r11
  case h11 => (intro w hSw; (try dsimp only at hSw); go_simp; try with_reducible rfl)
  refine wT 1 (v := ?v12) rfl (by kernel_rfl) (fun _ _ _ h => h) ?h12 (by assumption) ?r12
  case h12 => (intro w hSw; (try dsimp only at hSw); go_simp; try with_reducible rfl)
  refine wT 2 (v := ?v13) rfl (by kernel_rfl) (fun _ _ _ h => h) ?h13 (by assumption) ?r13
  case h13 => (intro w hSw; (try dsimp only at hSw); go_simp; try with_reducible rfl)
  refine wT 3 (v := ?v14) rfl (by kernel_rfl) (fun _ _ _ h => h) ?h14 (by assumption) ?r14
  case h14 => (intro w hSw; (try dsimp only at hSw); go_simp; try with_reducible rfl)
  refine wT 4 (v := ?v15) rfl (by kernel_rfl) (fun _ _ _ h => h) ?h15 (by assumption) ?r15
  case h15 => (intro w hSw; (try dsimp only at hSw); go_simp; try with_reducible rfl)
  refine wT 5 (v := ?v16) rfl (by kernel_rfl) (fun _ _ _ h => h) ?h16 (by assumption) ?r16
  case h16 => (intro w hSw; (try dsimp only at hSw); go_simp; try with_reducible rfl)
  refine wT 6 (v := ?v17) rfl (by kernel_rfl) (fun _ _ _ h => h) ?h17 (by assumption) ?r17
  case h17 => (intro w hSw; (try dsimp only at hSw); go_simp; try with_reducible rfl)
  try simp only [Act.put, List.setIfInBounds_toArray, List.set_cons_zero, List.set_cons_succ]
  refine wpAnyH_ready (rs := [7]) (by kernel_rfl) (by simp) ?_
  refine AllReadyH.cons (o := ⟨_, _, _, _, _, _⟩) rfl (fun K hK => ?_) AllReadyH.nil
  go_simp
  with_reducible refine (q1.out _).mono ?_
  rintro e t7 ⟨rfl, b7⟩
  go_simp
  refine hK.out _ _ (hHeld.trans (b7.mono hHeld.size)) (fun hHeld => ?_)
  clear hK K
  refine wT 8 (v := ?v18) rfl (by kernel_rfl) (fun _ _ _ h => h) ?h18 (by assumption) ?r18
  case h18 => (intro w hSw; (try dsimp only at hSw); go_simp; try with_reducible rfl)
  refine wT 9 (v := ?v19) rfl (by kernel_rfl) (fun _ _ _ h => h) ?h19 (by assumption) ?r19
  case h19 => (intro w hSw; (try dsimp only at hSw); go_simp; try with_reducible rfl)
  try simp only [Act.put, List.setIfInBounds_toArray, List.set_cons_zero, List.set_cons_succ]
  refine wpAnyH_done (by kernel_rfl) ?_ _
  go_wp2
  go_ret
  rw [hR.out]
  exact ⟨rfl, hHeld⟩
set_option maxRecDepth 100000 in
theorem rshow_1 (a : Option Addr) (n cp : Nat) (l : List ByteArray) (hl : ∀ s ∈ l, s.size ≤ 32) (x y c d : Int) (hr : rightB 1 x y c d (n : Int) = true) (w : World) (h : TT w a n cp l) : Calls Tryz.prog 50 #[.slice a n cp, .agg #[.int .i64 1, .int .i64 x, .int .i64 y, .int .i64 c, .int .i64 d]] w (Gives (.string (stmtT l 1 x y c d)) w) := by
  have hB := Lib.hid (box_below w #[.int .i64 1, .int .i64 x, .int .i64 y, .int .i64 c, .int .i64 d] 73)
  have hR : Hid (stmtT l 1 x y c d = ⟨#[115, 107, 105, 112]⟩) := Lib.hid rfl
  generalize stmtT l 1 x y c d = R at *
  clear h hl hr
  go_enter Tryz.func50, Tryz.ntmps50
  go_wp2
  go_ret
  rw [hR.out]
  exact ⟨rfl, hB.out⟩
set_option maxRecDepth 100000 in
set_option maxHeartbeats 4000000 in
theorem rshow_2 (a : Option Addr) (n cp : Nat) (l : List ByteArray) (hl : ∀ s ∈ l, s.size ≤ 32) (x y c d : Int) (hr : rightB 2 x y c d (n : Int) = true) (w : World) (h : TT w a n cp l) : Calls Tryz.prog 50 #[.slice a n cp, .agg #[.int .i64 2, .int .i64 x, .int .i64 y, .int .i64 c, .int .i64 d]] w (Gives (.string (stmtT l 2 x y c d)) w) := by
  obtain ⟨hx0, hx, hy0, hy, ⟨hc0, hc1⟩, rfl⟩ := right_let hr
  have hR : Hid (stmtT l 2 x y c 0 = (nmV l x ++ (⟨#[32, 58, 61, 32]⟩ : ByteArray)) ++ rletT l y c) := Lib.hid (by
    show letT l x y c = _
    unfold letT rletT
    split
    · rfl
    · split
      · rfl
      · split <;> simp only [ByteArray.append_assoc])
  have q := Lib.hid (fun W hW => rlet_any a n cp l hl y c hy0 hy hc0 hc1 W hW)
  have s0 := name_sz hl x
  have s1 := rlet_sz hl y c
  have hn : (n : Int) ≤ 9223372036854775807 := by have := h.cap; have := h.max; unfold maxLen at this; omega
  obtain ⟨i, b, off, rfl, hi, rfl, hbw, x0w⟩ := name_at h hx0 hx
  obtain ⟨W1, hW1⟩ : ∃ W1, W1 = w.alloc (.cells #[.int .i64 2, .int .i64 ((i : Int) + 1), .int .i64 y, .int .i64 c, .int .i64 0] 73) := ⟨_, rfl⟩
  have BL := Lib.hid (show Below w.heap.size w W1 by rw [hW1]; exact box_below _ _ _)
  have HZ : Hid (Holds W1 w.heap.size 73 #[.int .i64 2, .int .i64 ((i : Int) + 1), .int .i64 y, .int .i64 c, .int .i64 0]) := Lib.hid (by rw [hW1]; exact Holds.new w _ _)
  have V := Lib.hid (h.below BL.out)
  have hW1' := Lib.hid hW1
  have hbl : b < W1.heap.size := by have := BL.out.size; omega
  have x0 : W1.cell? ⟨b, off + i, none⟩ = some (.string (nmV l ((i : Int) + 1))) := (BL.out.cell (p := ⟨b, off + i, none⟩) hbw).trans x0w
  have hii : (i : Int) < (n : Int) := by omega
  have w1 : IntKind.i64.wrap (i : Int) = i := by rw [IntKind.wrap_i64]; omega
  have n1 : 0 ≤ (i : Int) := by omega
  have gx : ∀ W, Below W1.heap.size W1 W → W.cell? ⟨b, off + i, none⟩ = some (.string (nmV l ((i : Int) + 1))) := fun W hW => (hW.cell (p := ⟨b, off + i, none⟩) hbl).trans x0
  clear x0w x0 hbw
  generalize nmV l ((i : Int) + 1) = s at *
  generalize rletT l y c = v at *
  generalize stmtT l 2 ((i : Int) + 1) y c 0 = R at *
  have zz1 : ¬ 9223372036854775807 < s.size + 4 := by omega
  have zz2 : ¬ 9223372036854775807 < s.size + 4 + v.size := by omega
  clear h hl hW1 hx0 hx hr
  go_enter Tryz.func50, Tryz.ntmps50
  have k0 := HZ.out.cell 0
  have k1 := HZ.out.cell 1
  have k2 := HZ.out.cell 2
  have k3 := HZ.out.cell 3
  rw [hW1'.out] at k0 k1 k2 k3
  go_wp2
  rw [← hW1'.out]
  clear hW1' k0 k1 k2 k3
  have g0 : ∀ W, Below W1.heap.size W1 W → W.cell? ⟨w.heap.size, 0, none⟩ = some (.int .i64 2) := fun W hW => (HZ.out.below hW HZ.out.lt).cell 0
  have g1 : ∀ W, Below W1.heap.size W1 W → W.cell? ⟨w.heap.size, 1, none⟩ = some (.int .i64 ((i : Int) + 1)) := fun W hW => (HZ.out.below hW HZ.out.lt).cell 1
  have g2 : ∀ W, Below W1.heap.size W1 W → W.cell? ⟨w.heap.size, 2, none⟩ = some (.int .i64 y) := fun W hW => (HZ.out.below hW HZ.out.lt).cell 2
  have g3 : ∀ W, Below W1.heap.size W1 W → W.cell? ⟨w.heap.size, 3, none⟩ = some (.int .i64 c) := fun W hW => (HZ.out.below hW HZ.out.lt).cell 3
  have g4 : ∀ W, Below W1.heap.size W1 W → W.cell? ⟨w.heap.size, 4, none⟩ = some (.int .i64 0) := fun W hW => (HZ.out.below hW HZ.out.lt).cell 4
  refine wp_drawn_on (fun W => Below W1.heap.size W1 W) (by kernel_rfl) ((Below.refl _ _).drew) (fun hHeld => ?_)
  refine wT 0 (v := ?v20) rfl (by kernel_rfl) (fun _ _ _ h => h) ?h20 (by assumption) ?r20
  case h20 => (intro w hSw; (try dsimp only at hSw); go_simp; try with_reducible rfl)
  refine wT 1 (v := ?v21) rfl (by kernel_rfl) (fun _ _ _ h => h) ?h21 (by assumption) ?r21
  case h21 => (intro w hSw; (try dsimp only at hSw); go_simp; try with_reducible rfl)
  refine wT 2 (v := ?v22) rfl (by kernel_rfl) (fun _ _ _ h => h) ?h22 (by assumption) ?r22
  case h22 => (intro w hSw; (try dsimp only at hSw); go_simp; try with_reducible rfl)
  refine wT 3 (v := ?v23) rfl (by kernel_rfl) (fun _ _ _ h => h) ?h23 (by assumption) ?r23
  case h23 => (intro w hSw; (try dsimp only at hSw); go_simp; try with_reducible rfl)
  refine wT 4 (v := ?v24) rfl (by kernel_rfl) (fun _ _ _ h => h) ?h24 (by assumption) ?r24
  case h24 => (intro w hSw; (try dsimp only at hSw); go_simp; try with_reducible rfl)
  refine wT 5 (v := ?v25) rfl (by kernel_rfl) (fun _ _ _ h => h) ?h25 (by assumption) ?r25
  case h25 => (intro w hSw; (try dsimp only at hSw); go_simp; try with_reducible rfl)
  refine wT 6 (v := ?v26) rfl (by kernel_rfl) (fun _ _ _ h => h) ?h26 (by assumption) ?r26
  case h26 => (intro w hSw; (try dsimp only at hSw); go_simp; try with_reducible rfl)
  refine wT 7 (v := ?v27) rfl (by kernel_rfl) (fun _ _ _ h => h) ?h27 (by assumption) ?r27
  case h27 => (intro w hSw; (try dsimp only at hSw); go_simp; try with_reducible rfl)
  refine wT 8 (v := ?v28) rfl (by kernel_rfl) (fun _ _ _ h => h) ?h28 (by assumption) ?r28
  case h28 => (intro w hSw; (try dsimp only at hSw); go_simp; try with_reducible rfl)
  refine wT 9 (v := ?v29) rfl (by kernel_rfl) (fun _ _ _ h => h) ?h29 (by assumption) ?r29
  case h29 => (intro w hSw; (try dsimp only at hSw); go_simp; try with_reducible rfl)
  refine wT 10 (v := ?v30) rfl (by kernel_rfl) (fun _ _ _ h => h) ?h30 (by assumption) ?r30
  case h30 => (intro w hSw; (try dsimp only at hSw); go_simp; try with_reducible rfl)
  refine wT 11 (v := ?v31) rfl (by kernel_rfl) (fun _ _ _ h => h) ?h31 (by assumption) ?r31
  case h31 => (intro w hSw; (try dsimp only at hSw); go_simp; try with_reducible rfl)
  try simp only [Act.put, List.setIfInBounds_toArray, List.set_cons_zero, List.set_cons_succ]
  refine wpAnyH_ready (rs := [12]) (by kernel_rfl) (by simp) ?_
  refine AllReadyH.cons (o := ⟨_, _, _, _, _, _⟩) rfl (fun K hK => ?_) AllReadyH.nil
  go_simp
  with_reducible refine (q.out _ (V.out.below hHeld)).mono ?_
  rintro e t12 ⟨rfl, b12⟩
  go_simp
  refine hK.out _ _ (hHeld.trans (b12.mono hHeld.size)) (fun hHeld => ?_)
  clear hK K
  refine wT 13 (v := ?v32) rfl (by kernel_rfl) (fun _ _ _ h => h) ?h32 (by assumption) ?r32
  case h32 => (intro w hSw; (try dsimp only at hSw); go_simp; try with_reducible rfl)
  refine wT 14 (v := ?v33) rfl (by kernel_rfl) (fun _ _ _ h => h) ?h33 (by assumption) ?r33
  case h33 => (intro w hSw; (try dsimp only at hSw); go_simp; try with_reducible rfl)
  try simp only [Act.put, List.setIfInBounds_toArray, List.set_cons_zero, List.set_cons_succ]
  refine wpAnyH_done (by kernel_rfl) ?_ _
  go_wp2
  go_ret
  rw [hR.out]
  exact ⟨rfl, BL.out.trans (hHeld.mono BL.out.size)⟩
set_option maxRecDepth 100000 in
set_option maxHeartbeats 4000000 in
theorem rshow_3 (a : Option Addr) (n cp : Nat) (l : List ByteArray) (hl : ∀ s ∈ l, s.size ≤ 32) (x y c d : Int) (hr : rightB 3 x y c d (n : Int) = true) (w : World) (h : TT w a n cp l) : Calls Tryz.prog 50 #[.slice a n cp, .agg #[.int .i64 3, .int .i64 x, .int .i64 y, .int .i64 c, .int .i64 d]] w (Gives (.string (stmtT l 3 x y c d)) w) := by
  obtain ⟨hx0, hx, rfl, ⟨hc0, hc1⟩, ⟨hd0, hd1⟩, _⟩ := right_any' hr
  have hR : Hid (stmtT l 3 x 0 c d = ((((nmV l x ++ (⟨#[32, 58, 61, 32, 97, 110, 121, 32, 91]⟩ : ByteArray)) ++ vT c) ++ (⟨#[44, 32]⟩ : ByteArray)) ++ vT d) ++ (⟨#[93]⟩ : ByteArray)) := Lib.hid (by
    show anyT l x c d = _
    unfold anyT
    apply bytes_ext
    simp only [app_list, List.append_assoc]
    rfl)
  have q1 := Lib.hid (fun W => rvshow_any c hc0 hc1 W)
  have q2 := Lib.hid (fun W => rvshow_any d hd0 hd1 W)
  have s0 := name_sz hl x
  have s1 := vT_size c
  have s2 := vT_size d
  have hn : (n : Int) ≤ 9223372036854775807 := by have := h.cap; have := h.max; unfold maxLen at this; omega
  obtain ⟨i, b, off, rfl, hi, rfl, hbw, x0w⟩ := name_at h hx0 hx
  obtain ⟨W1, hW1⟩ : ∃ W1, W1 = w.alloc (.cells #[.int .i64 3, .int .i64 ((i : Int) + 1), .int .i64 0, .int .i64 c, .int .i64 d] 73) := ⟨_, rfl⟩
  have BL := Lib.hid (show Below w.heap.size w W1 by rw [hW1]; exact box_below _ _ _)
  have HZ : Hid (Holds W1 w.heap.size 73 #[.int .i64 3, .int .i64 ((i : Int) + 1), .int .i64 0, .int .i64 c, .int .i64 d]) := Lib.hid (by rw [hW1]; exact Holds.new w _ _)
  have V := Lib.hid (h.below BL.out)
  have hW1' := Lib.hid hW1
  have hbl : b < W1.heap.size := by have := BL.out.size; omega
  have x0 : W1.cell? ⟨b, off + i, none⟩ = some (.string (nmV l ((i : Int) + 1))) := (BL.out.cell (p := ⟨b, off + i, none⟩) hbw).trans x0w
  have hii : (i : Int) < (n : Int) := by omega
  have w1 : IntKind.i64.wrap (i : Int) = i := by rw [IntKind.wrap_i64]; omega
  have n1 : 0 ≤ (i : Int) := by omega
  have gx : ∀ W, Below W1.heap.size W1 W → W.cell? ⟨b, off + i, none⟩ = some (.string (nmV l ((i : Int) + 1))) := fun W hW => (hW.cell (p := ⟨b, off + i, none⟩) hbl).trans x0
  clear x0w x0 hbw
  generalize nmV l ((i : Int) + 1) = s at *
  generalize vT c = v at *
  generalize vT d = u at *
  generalize stmtT l 3 ((i : Int) + 1) 0 c d = R at *
  have zz1 : ¬ 9223372036854775807 < s.size + 9 := by omega
  have zz2 : ¬ 9223372036854775807 < s.size + 9 + v.size := by omega
  have zz3 : ¬ 9223372036854775807 < s.size + 9 + v.size + 2 := by omega
  have zz4 : ¬ 9223372036854775807 < s.size + 9 + v.size + 2 + u.size := by omega
  have zz5 : ¬ 9223372036854775807 < s.size + 9 + v.size + 2 + u.size + 1 := by omega
  clear h hl hW1 hx0 hx hr
  go_enter Tryz.func50, Tryz.ntmps50
  have k0 := HZ.out.cell 0
  have k1 := HZ.out.cell 1
  have k2 := HZ.out.cell 2
  have k3 := HZ.out.cell 3
  rw [hW1'.out] at k0 k1 k2 k3
  go_wp2
  rw [← hW1'.out]
  clear hW1' k0 k1 k2 k3
  have g0 : ∀ W, Below W1.heap.size W1 W → W.cell? ⟨w.heap.size, 0, none⟩ = some (.int .i64 3) := fun W hW => (HZ.out.below hW HZ.out.lt).cell 0
  have g1 : ∀ W, Below W1.heap.size W1 W → W.cell? ⟨w.heap.size, 1, none⟩ = some (.int .i64 ((i : Int) + 1)) := fun W hW => (HZ.out.below hW HZ.out.lt).cell 1
  have g2 : ∀ W, Below W1.heap.size W1 W → W.cell? ⟨w.heap.size, 2, none⟩ = some (.int .i64 0) := fun W hW => (HZ.out.below hW HZ.out.lt).cell 2
  have g3 : ∀ W, Below W1.heap.size W1 W → W.cell? ⟨w.heap.size, 3, none⟩ = some (.int .i64 c) := fun W hW => (HZ.out.below hW HZ.out.lt).cell 3
  have g4 : ∀ W, Below W1.heap.size W1 W → W.cell? ⟨w.heap.size, 4, none⟩ = some (.int .i64 d) := fun W hW => (HZ.out.below hW HZ.out.lt).cell 4
  refine wp_drawn_on (fun W => Below W1.heap.size W1 W) (by kernel_rfl) ((Below.refl _ _).drew) (fun hHeld => ?_)
  refine wT 0 (v := ?v34) rfl (by kernel_rfl) (fun _ _ _ h => h) ?h34 (by assumption) ?r34
  case h34 => (intro w hSw; (try dsimp only at hSw); go_simp; try with_reducible rfl)
  refine wT 1 (v := ?v35) rfl (by kernel_rfl) (fun _ _ _ h => h) ?h35 (by assumption) ?r35
  case h35 => (intro w hSw; (try dsimp only at hSw); go_simp; try with_reducible rfl)
  refine wT 2 (v := ?v36) rfl (by kernel_rfl) (fun _ _ _ h => h) ?h36 (by assumption) ?r36
  case h36 => (intro w hSw; (try dsimp only at hSw); go_simp; try with_reducible rfl)
  refine wT 3 (v := ?v37) rfl (by kernel_rfl) (fun _ _ _ h => h) ?h37 (by assumption) ?r37
  case h37 => (intro w hSw; (try dsimp only at hSw); go_simp; try with_reducible rfl)
  refine wT 4 (v := ?v38) rfl (by kernel_rfl) (fun _ _ _ h => h) ?h38 (by assumption) ?r38
  case h38 => (intro w hSw; (try dsimp only at hSw); go_simp; try with_reducible rfl)
  refine wT 5 (v := ?v39) rfl (by kernel_rfl) (fun _ _ _ h => h) ?h39 (by assumption) ?r39
  case h39 => (intro w hSw; (try dsimp only at hSw); go_simp; try with_reducible rfl)
  refine wT 6 (v := ?v40) rfl (by kernel_rfl) (fun _ _ _ h => h) ?h40 (by assumption) ?r40
  case h40 => (intro w hSw; (try dsimp only at hSw); go_simp; try with_reducible rfl)
  refine wT 7 (v := ?v41) rfl (by kernel_rfl) (fun _ _ _ h => h) ?h41 (by assumption) ?r41
  case h41 => (intro w hSw; (try dsimp only at hSw); go_simp; try with_reducible rfl)
  refine wT 8 (v := ?v42) rfl (by kernel_rfl) (fun _ _ _ h => h) ?h42 (by assumption) ?r42
  case h42 => (intro w hSw; (try dsimp only at hSw); go_simp; try with_reducible rfl)
  refine wT 12 (v := ?v43) rfl (by kernel_rfl) (fun _ _ _ h => h) ?h43 (by assumption) ?r43
  case h43 => (intro w hSw; (try dsimp only at hSw); go_simp; try with_reducible rfl)
  refine wT 13 (v := ?v44) rfl (by kernel_rfl) (fun _ _ _ h => h) ?h44 (by assumption) ?r44
  case h44 => (intro w hSw; (try dsimp only at hSw); go_simp; try with_reducible rfl)
  try simp only [Act.put, List.setIfInBounds_toArray, List.set_cons_zero, List.set_cons_succ]
  refine wpAnyH_ready (rs := [9]) (by kernel_rfl) (by simp) ?_
  refine AllReadyH.cons (o := ⟨_, _, _, _, _, _⟩) rfl (fun K hK => ?_) AllReadyH.nil
  go_simp
  with_reducible refine (q1.out _).mono ?_
  rintro e t9 ⟨rfl, b9⟩
  go_simp
  refine hK.out _ _ (hHeld.trans (b9.mono hHeld.size)) (fun hHeld => ?_)
  clear hK K
  refine wT 10 (v := ?v45) rfl (by kernel_rfl) (fun _ _ _ h => h) ?h45 (by assumption) ?r45
  case h45 => (intro w hSw; (try dsimp only at hSw); go_simp; try with_reducible rfl)
  refine wT 11 (v := ?v46) rfl (by kernel_rfl) (fun _ _ _ h => h) ?h46 (by assumption) ?r46
  case h46 => (intro w hSw; (try dsimp only at hSw); go_simp; try with_reducible rfl)
  try simp only [Act.put, List.setIfInBounds_toArray, List.set_cons_zero, List.set_cons_succ]
  refine wpAnyH_ready (rs := [14]) (by kernel_rfl) (by simp) ?_
  refine AllReadyH.cons (o := ⟨_, _, _, _, _, _⟩) rfl (fun K hK => ?_) AllReadyH.nil
  go_simp
  with_reducible refine (q2.out _).mono ?_
  rintro e t14 ⟨rfl, b14⟩
  go_simp
  refine hK.out _ _ (hHeld.trans (b14.mono hHeld.size)) (fun hHeld => ?_)
  clear hK K
  refine wT 15 (v := ?v47) rfl (by kernel_rfl) (fun _ _ _ h => h) ?h47 (by assumption) ?r47
  case h47 => (intro w hSw; (try dsimp only at hSw); go_simp; try with_reducible rfl)
  refine wT 16 (v := ?v48) rfl (by kernel_rfl) (fun _ _ _ h => h) ?h48 (by assumption) ?r48
  case h48 => (intro w hSw; (try dsimp only at hSw); go_simp; try with_reducible rfl)
  refine wT 17 (v := ?v49) rfl (by kernel_rfl) (fun _ _ _ h => h) ?h49 (by assumption) ?r49
  case h49 => (intro w hSw; (try dsimp only at hSw); go_simp; try with_reducible rfl)
  try simp only [Act.put, List.setIfInBounds_toArray, List.set_cons_zero, List.set_cons_succ]
  refine wpAnyH_done (by kernel_rfl) ?_ _
  go_wp2
  go_ret
  rw [hR.out]
  exact ⟨rfl, BL.out.trans (hHeld.mono BL.out.size)⟩
set_option maxRecDepth 100000 in
set_option maxHeartbeats 4000000 in
theorem rshow_4 (a : Option Addr) (n cp : Nat) (l : List ByteArray) (hl : ∀ s ∈ l, s.size ≤ 32) (x y c d : Int) (hr : rightB 4 x y c d (n : Int) = true) (w : World) (h : TT w a n cp l) : Calls Tryz.prog 50 #[.slice a n cp, .agg #[.int .i64 4, .int .i64 x, .int .i64 y, .int .i64 c, .int .i64 d]] w (Gives (.string (stmtT l 4 x y c d)) w) := by
  obtain ⟨hx0, hx, hy0, hy, hxy, ⟨hc0, hc1⟩, rfl⟩ := right_diff (by omega) hr
  have hR : Hid (stmtT l 4 x y c 0 = (((⟨#[108, 105, 109, 105, 116, 32]⟩ : ByteArray) ++ diffT l x y) ++ (⟨#[32, 60, 61, 32]⟩ : ByteArray)) ++ vT c) := Lib.hid (by
    show limT ⟨#[108, 105, 109, 105, 116]⟩ l x y c = _
    unfold limT
    apply bytes_ext
    simp only [app_list, List.append_assoc]
    rfl)
  have q1 := Lib.hid (fun W hW => rdifference_any a n cp l hl x y hx0 hx hy0 hy hxy W hW)
  have q2 := Lib.hid (fun W => rvshow_any c hc0 hc1 W)
  have s1 := diff_sz hl x y
  have s2 := vT_size c
  obtain ⟨W1, hW1⟩ : ∃ W1, W1 = w.alloc (.cells #[.int .i64 4, .int .i64 x, .int .i64 y, .int .i64 c, .int .i64 0] 73) := ⟨_, rfl⟩
  have BL := Lib.hid (show Below w.heap.size w W1 by rw [hW1]; exact box_below _ _ _)
  have HZ : Hid (Holds W1 w.heap.size 73 #[.int .i64 4, .int .i64 x, .int .i64 y, .int .i64 c, .int .i64 0]) := Lib.hid (by rw [hW1]; exact Holds.new w _ _)
  have V := Lib.hid (h.below BL.out)
  have hW1' := Lib.hid hW1
  generalize diffT l x y = v at *
  generalize vT c = u at *
  generalize stmtT l 4 x y c 0 = R at *
  have zz1 : ¬ 9223372036854775807 < 6 + v.size := by omega
  have zz2 : ¬ 9223372036854775807 < 6 + v.size + 4 := by omega
  have zz3 : ¬ 9223372036854775807 < 6 + v.size + 4 + u.size := by omega
  clear h hl hW1 hx0 hx hr hxy hy0 hy
  go_enter Tryz.func50, Tryz.ntmps50
  have k0 := HZ.out.cell 0
  have k1 := HZ.out.cell 1
  have k2 := HZ.out.cell 2
  have k3 := HZ.out.cell 3
  rw [hW1'.out] at k0 k1 k2 k3
  go_wp2
  rw [← hW1'.out]
  clear hW1' k0 k1 k2 k3
  have g0 : ∀ W, Below W1.heap.size W1 W → W.cell? ⟨w.heap.size, 0, none⟩ = some (.int .i64 4) := fun W hW => (HZ.out.below hW HZ.out.lt).cell 0
  have g1 : ∀ W, Below W1.heap.size W1 W → W.cell? ⟨w.heap.size, 1, none⟩ = some (.int .i64 x) := fun W hW => (HZ.out.below hW HZ.out.lt).cell 1
  have g2 : ∀ W, Below W1.heap.size W1 W → W.cell? ⟨w.heap.size, 2, none⟩ = some (.int .i64 y) := fun W hW => (HZ.out.below hW HZ.out.lt).cell 2
  have g3 : ∀ W, Below W1.heap.size W1 W → W.cell? ⟨w.heap.size, 3, none⟩ = some (.int .i64 c) := fun W hW => (HZ.out.below hW HZ.out.lt).cell 3
  have g4 : ∀ W, Below W1.heap.size W1 W → W.cell? ⟨w.heap.size, 4, none⟩ = some (.int .i64 0) := fun W hW => (HZ.out.below hW HZ.out.lt).cell 4
  refine wp_drawn_on (fun W => Below W1.heap.size W1 W) (by kernel_rfl) ((Below.refl _ _).drew) (fun hHeld => ?_)
  refine wT 0 (v := ?v50) rfl (by kernel_rfl) (fun _ _ _ h => h) ?h50 (by assumption) ?r50
  case h50 => (intro w hSw; (try dsimp only at hSw); go_simp; try with_reducible rfl)
  refine wT 1 (v := ?v51) rfl (by kernel_rfl) (fun _ _ _ h => h) ?h51 (by assumption) ?r51
  case h51 => (intro w hSw; (try dsimp only at hSw); go_simp; try with_reducible rfl)
  refine wT 2 (v := ?v52) rfl (by kernel_rfl) (fun _ _ _ h => h) ?h52 (by assumption) ?r52
  case h52 => (intro w hSw; (try dsimp only at hSw); go_simp; try with_reducible rfl)
  refine wT 3 (v := ?v53) rfl (by kernel_rfl) (fun _ _ _ h => h) ?h53 (by assumption) ?r53
  case h53 => (intro w hSw; (try dsimp only at hSw); go_simp; try with_reducible rfl)
  refine wT 4 (v := ?v54) rfl (by kernel_rfl) (fun _ _ _ h => h) ?h54 (by assumption) ?r54
  case h54 => (intro w hSw; (try dsimp only at hSw); go_simp; try with_reducible rfl)
  refine wT 8 (v := ?v55) rfl (by kernel_rfl) (fun _ _ _ h => h) ?h55 (by assumption) ?r55
  case h55 => (intro w hSw; (try dsimp only at hSw); go_simp; try with_reducible rfl)
  refine wT 9 (v := ?v56) rfl (by kernel_rfl) (fun _ _ _ h => h) ?h56 (by assumption) ?r56
  case h56 => (intro w hSw; (try dsimp only at hSw); go_simp; try with_reducible rfl)
  try simp only [Act.put, List.setIfInBounds_toArray, List.set_cons_zero, List.set_cons_succ]
  refine wpAnyH_ready (rs := [5]) (by kernel_rfl) (by simp) ?_
  refine AllReadyH.cons (o := ⟨_, _, _, _, _, _⟩) rfl (fun K hK => ?_) AllReadyH.nil
  go_simp
  with_reducible refine (q1.out _ (V.out.below hHeld)).mono ?_
  rintro e t5 ⟨rfl, b5⟩
  go_simp
  refine hK.out _ _ (hHeld.trans (b5.mono hHeld.size)) (fun hHeld => ?_)
  clear hK K
  refine wT 6 (v := ?v57) rfl (by kernel_rfl) (fun _ _ _ h => h) ?h57 (by assumption) ?r57
  case h57 => (intro w hSw; (try dsimp only at hSw); go_simp; try with_reducible rfl)
  refine wT 7 (v := ?v58) rfl (by kernel_rfl) (fun _ _ _ h => h) ?h58 (by assumption) ?r58
  case h58 => (intro w hSw; (try dsimp only at hSw); go_simp; try with_reducible rfl)
  try simp only [Act.put, List.setIfInBounds_toArray, List.set_cons_zero, List.set_cons_succ]
  refine wpAnyH_ready (rs := [10]) (by kernel_rfl) (by simp) ?_
  refine AllReadyH.cons (o := ⟨_, _, _, _, _, _⟩) rfl (fun K hK => ?_) AllReadyH.nil
  go_simp
  with_reducible refine (q2.out _).mono ?_
  rintro e t10 ⟨rfl, b10⟩
  go_simp
  refine hK.out _ _ (hHeld.trans (b10.mono hHeld.size)) (fun hHeld => ?_)
  clear hK K
  refine wT 11 (v := ?v59) rfl (by kernel_rfl) (fun _ _ _ h => h) ?h59 (by assumption) ?r59
  case h59 => (intro w hSw; (try dsimp only at hSw); go_simp; try with_reducible rfl)
  refine wT 12 (v := ?v60) rfl (by kernel_rfl) (fun _ _ _ h => h) ?h60 (by assumption) ?r60
  case h60 => (intro w hSw; (try dsimp only at hSw); go_simp; try with_reducible rfl)
  try simp only [Act.put, List.setIfInBounds_toArray, List.set_cons_zero, List.set_cons_succ]
  refine wpAnyH_done (by kernel_rfl) ?_ _
  go_wp2
  go_ret
  rw [hR.out]
  exact ⟨rfl, BL.out.trans (hHeld.mono BL.out.size)⟩
set_option maxRecDepth 100000 in
set_option maxHeartbeats 4000000 in
theorem rshow_5 (a : Option Addr) (n cp : Nat) (l : List ByteArray) (hl : ∀ s ∈ l, s.size ≤ 32) (x y c d : Int) (hr : rightB 5 x y c d (n : Int) = true) (w : World) (h : TT w a n cp l) : Calls Tryz.prog 50 #[.slice a n cp, .agg #[.int .i64 5, .int .i64 x, .int .i64 y, .int .i64 c, .int .i64 d]] w (Gives (.string (stmtT l 5 x y c d)) w) := by
  obtain ⟨hx0, hx, hy0, hy, hxy, ⟨hc0, hc1⟩, rfl⟩ := right_diff (by omega) hr
  have hR : Hid (stmtT l 5 x y c 0 = (((⟨#[99, 104, 101, 99, 107, 32]⟩ : ByteArray) ++ diffT l x y) ++ (⟨#[32, 60, 61, 32]⟩ : ByteArray)) ++ vT c) := Lib.hid (by
    show limT ⟨#[99, 104, 101, 99, 107]⟩ l x y c = _
    unfold limT
    apply bytes_ext
    simp only [app_list, List.append_assoc]
    rfl)
  have q1 := Lib.hid (fun W hW => rdifference_any a n cp l hl x y hx0 hx hy0 hy hxy W hW)
  have q2 := Lib.hid (fun W => rvshow_any c hc0 hc1 W)
  have s1 := diff_sz hl x y
  have s2 := vT_size c
  obtain ⟨W1, hW1⟩ : ∃ W1, W1 = w.alloc (.cells #[.int .i64 5, .int .i64 x, .int .i64 y, .int .i64 c, .int .i64 0] 73) := ⟨_, rfl⟩
  have BL := Lib.hid (show Below w.heap.size w W1 by rw [hW1]; exact box_below _ _ _)
  have HZ : Hid (Holds W1 w.heap.size 73 #[.int .i64 5, .int .i64 x, .int .i64 y, .int .i64 c, .int .i64 0]) := Lib.hid (by rw [hW1]; exact Holds.new w _ _)
  have V := Lib.hid (h.below BL.out)
  have hW1' := Lib.hid hW1
  generalize diffT l x y = v at *
  generalize vT c = u at *
  generalize stmtT l 5 x y c 0 = R at *
  have zz1 : ¬ 9223372036854775807 < 6 + v.size := by omega
  have zz2 : ¬ 9223372036854775807 < 6 + v.size + 4 := by omega
  have zz3 : ¬ 9223372036854775807 < 6 + v.size + 4 + u.size := by omega
  clear h hl hW1 hx0 hx hr hxy hy0 hy
  go_enter Tryz.func50, Tryz.ntmps50
  have k0 := HZ.out.cell 0
  have k1 := HZ.out.cell 1
  have k2 := HZ.out.cell 2
  have k3 := HZ.out.cell 3
  rw [hW1'.out] at k0 k1 k2 k3
  go_wp2
  rw [← hW1'.out]
  clear hW1' k0 k1 k2 k3
  have g0 : ∀ W, Below W1.heap.size W1 W → W.cell? ⟨w.heap.size, 0, none⟩ = some (.int .i64 5) := fun W hW => (HZ.out.below hW HZ.out.lt).cell 0
  have g1 : ∀ W, Below W1.heap.size W1 W → W.cell? ⟨w.heap.size, 1, none⟩ = some (.int .i64 x) := fun W hW => (HZ.out.below hW HZ.out.lt).cell 1
  have g2 : ∀ W, Below W1.heap.size W1 W → W.cell? ⟨w.heap.size, 2, none⟩ = some (.int .i64 y) := fun W hW => (HZ.out.below hW HZ.out.lt).cell 2
  have g3 : ∀ W, Below W1.heap.size W1 W → W.cell? ⟨w.heap.size, 3, none⟩ = some (.int .i64 c) := fun W hW => (HZ.out.below hW HZ.out.lt).cell 3
  have g4 : ∀ W, Below W1.heap.size W1 W → W.cell? ⟨w.heap.size, 4, none⟩ = some (.int .i64 0) := fun W hW => (HZ.out.below hW HZ.out.lt).cell 4
  refine wp_drawn_on (fun W => Below W1.heap.size W1 W) (by kernel_rfl) ((Below.refl _ _).drew) (fun hHeld => ?_)
  refine wT 0 (v := ?v61) rfl (by kernel_rfl) (fun _ _ _ h => h) ?h61 (by assumption) ?r61
  case h61 => (intro w hSw; (try dsimp only at hSw); go_simp; try with_reducible rfl)
  refine wT 1 (v := ?v62) rfl (by kernel_rfl) (fun _ _ _ h => h) ?h62 (by assumption) ?r62
  case h62 => (intro w hSw; (try dsimp only at hSw); go_simp; try with_reducible rfl)
  refine wT 2 (v := ?v63) rfl (by kernel_rfl) (fun _ _ _ h => h) ?h63 (by assumption) ?r63
  case h63 => (intro w hSw; (try dsimp only at hSw); go_simp; try with_reducible rfl)
  refine wT 3 (v := ?v64) rfl (by kernel_rfl) (fun _ _ _ h => h) ?h64 (by assumption) ?r64
  case h64 => (intro w hSw; (try dsimp only at hSw); go_simp; try with_reducible rfl)
  refine wT 4 (v := ?v65) rfl (by kernel_rfl) (fun _ _ _ h => h) ?h65 (by assumption) ?r65
  case h65 => (intro w hSw; (try dsimp only at hSw); go_simp; try with_reducible rfl)
  refine wT 8 (v := ?v66) rfl (by kernel_rfl) (fun _ _ _ h => h) ?h66 (by assumption) ?r66
  case h66 => (intro w hSw; (try dsimp only at hSw); go_simp; try with_reducible rfl)
  refine wT 9 (v := ?v67) rfl (by kernel_rfl) (fun _ _ _ h => h) ?h67 (by assumption) ?r67
  case h67 => (intro w hSw; (try dsimp only at hSw); go_simp; try with_reducible rfl)
  try simp only [Act.put, List.setIfInBounds_toArray, List.set_cons_zero, List.set_cons_succ]
  refine wpAnyH_ready (rs := [5]) (by kernel_rfl) (by simp) ?_
  refine AllReadyH.cons (o := ⟨_, _, _, _, _, _⟩) rfl (fun K hK => ?_) AllReadyH.nil
  go_simp
  with_reducible refine (q1.out _ (V.out.below hHeld)).mono ?_
  rintro e t5 ⟨rfl, b5⟩
  go_simp
  refine hK.out _ _ (hHeld.trans (b5.mono hHeld.size)) (fun hHeld => ?_)
  clear hK K
  refine wT 6 (v := ?v68) rfl (by kernel_rfl) (fun _ _ _ h => h) ?h68 (by assumption) ?r68
  case h68 => (intro w hSw; (try dsimp only at hSw); go_simp; try with_reducible rfl)
  refine wT 7 (v := ?v69) rfl (by kernel_rfl) (fun _ _ _ h => h) ?h69 (by assumption) ?r69
  case h69 => (intro w hSw; (try dsimp only at hSw); go_simp; try with_reducible rfl)
  try simp only [Act.put, List.setIfInBounds_toArray, List.set_cons_zero, List.set_cons_succ]
  refine wpAnyH_ready (rs := [10]) (by kernel_rfl) (by simp) ?_
  refine AllReadyH.cons (o := ⟨_, _, _, _, _, _⟩) rfl (fun K hK => ?_) AllReadyH.nil
  go_simp
  with_reducible refine (q2.out _).mono ?_
  rintro e t10 ⟨rfl, b10⟩
  go_simp
  refine hK.out _ _ (hHeld.trans (b10.mono hHeld.size)) (fun hHeld => ?_)
  clear hK K
  refine wT 11 (v := ?v70) rfl (by kernel_rfl) (fun _ _ _ h => h) ?h70 (by assumption) ?r70
  case h70 => (intro w hSw; (try dsimp only at hSw); go_simp; try with_reducible rfl)
  refine wT 12 (v := ?v71) rfl (by kernel_rfl) (fun _ _ _ h => h) ?h71 (by assumption) ?r71
  case h71 => (intro w hSw; (try dsimp only at hSw); go_simp; try with_reducible rfl)
  try simp only [Act.put, List.setIfInBounds_toArray, List.set_cons_zero, List.set_cons_succ]
  refine wpAnyH_done (by kernel_rfl) ?_ _
  go_wp2
  go_ret
  rw [hR.out]
  exact ⟨rfl, BL.out.trans (hHeld.mono BL.out.size)⟩
theorem rshow_any (a : Option Addr) (n cp : Nat) (l : List ByteArray) (hl : ∀ s ∈ l, s.size ≤ 32) (k x y c d : Int) (hr : rightB k x y c d (n : Int) = true) (w : World) (h : TT w a n cp l) : Calls Tryz.prog 50 #[.slice a n cp, .agg #[.int .i64 k, .int .i64 x, .int .i64 y, .int .i64 c, .int .i64 d]] w (Gives (.string (stmtT l k x y c d)) w) := by
  obtain ⟨k0, k5⟩ := right_kind hr
  rcases (show k = 1 ∨ k = 2 ∨ k = 3 ∨ k = 4 ∨ k = 5 by omega) with rfl | rfl | rfl | rfl | rfl
  · exact rshow_1 a n cp l hl x y c d hr w h
  · exact rshow_2 a n cp l hl x y c d hr w h
  · exact rshow_3 a n cp l hl x y c d hr w h
  · exact rshow_4 a n cp l hl x y c d hr w h
  · exact rshow_5 a n cp l hl x y c d hr w h
end Go.Proofs.YtimgocfkogebmaaGreatDoor
namespace Go.Proofs.YtimgocfkogebmaaGreatDoor
open Go.RowKit
set_option linter.unusedVariables false
set_option linter.unusedSimpArgs false
theorem cut_check {s : ByteArray} {R : List UInt8} (h : s.data.toList = [99, 104, 101, 99, 107, 32] ++ R) : 6 ≤ s.size ∧ s.extract 6 s.size = trimT s := by
  have e : s.size = s.data.toList.length := by rw [Array.length_toList]; rfl
  have hl : s.data.toList.length = 6 + R.length := by rw [h]; simp; omega
  refine ⟨by omega, bytes_ext ?_⟩
  rw [trimT_app h, ByteArray.data_extract, Array.toList_extract, List.extract_eq_take_drop, e, hl, h]
  simp
theorem cut_stmt (l : List ByteArray) (x y c d : Int) : 6 ≤ (stmtT l 5 x y c d).size ∧ (stmtT l 5 x y c d).extract 6 (stmtT l 5 x y c d).size = trimT (stmtT l 5 x y c d) := by
  have hP : stmtT l 5 x y c d = limT ⟨#[99, 104, 101, 99, 107]⟩ l x y c := by unfold stmtT; simp
  refine cut_check (R := (diffT l x y).data.toList ++ ([32, 60, 61, 32] ++ (vT c).data.toList)) ?_
  rw [hP]
  unfold limT
  simp only [app_list, List.append_assoc]
  rfl
end Go.Proofs.YtimgocfkogebmaaGreatDoor
