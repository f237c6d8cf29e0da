/- 'lives' of the statements on file. -/
import Derived.Test.YtjhakmpinloioaaFileSpoil
import Derived.Lib.SlBytesConst
namespace Go.Proofs.Ytjhakmpinloioaa
open Go.RowKit
set_option linter.unusedVariables false

theorem conv_const (W : World) (C : Array Value) (n c h : Nat) (hh : h = W.heap.size) : (convert 30 30 (.slice (some ⟨h, 0, none⟩) n c)).run Try.prog (W.alloc (.cells C 5)) = .ok (.slice (some ⟨h, 0, none⟩) n c) (W.alloc (.cells C 5 (C.size, C.size + 1))) := by
  subst hh; exact Lib.run_convert_bytes_const W 30 5 C n c Try.underlying30 Try.underlying5
theorem sees_const (X : List Nat) (W : World) (hX : ∀ x ∈ X, x < W.heap.size) (l : List Int) (cs : Array Value) (h : cs = (nums .u8 l).toArray) (fr : Nat × Nat) :
    SeesE X .u8 (W.alloc (.cells cs 5 fr)).heap.size (W.alloc (.cells cs 5 fr)) (some ⟨W.heap.size, 0, none⟩) l := by
  have h1 := sees_new .u8 W 5 l cs h fr
  have h2 : (W.alloc (.cells cs 5 fr)).heap.size = W.heap.size + 1 := by simp
  rw [h2]
  rcases h1 with h1 | ⟨b, off, hb, hlt, hc⟩
  · exact .inl h1
  · injection hb with hb
    injection hb with hb1 hb2
    subst hb1 hb2
    exact .inr ⟨_, _, rfl, hlt, fun hm => by have := hX _ hm; omega, hc⟩
theorem Silent.all {W w w' : World} {d : Nat} {F : List Nat} {s : St} {e : Ending} (h : Silent s d F w e w') (hb : Below W.heap.size W w) (hd : W.heap.size ≤ d) : Below W.heap.size W w' :=
  hb.trans ((h.2.2.mono hb.size).toBelow (by simpa using hd))
def L1 : Nat → List Int := upd (fun _ => []) 1 [97, 98]
def L2 : Nat → List Int := upd L1 1 [97, 120, 121, 122]

set_option maxRecDepth 100000 in
set_option maxHeartbeats 2000000 in
theorem lives_any (w : World) : Calls Try.prog 8 #[] w (Gives (.bool true) w) := by
  have kc := conv_const
  go_enter Try.func8, Try.ntmps8
  go_wp2_with fail
  refine (new_any w).mono ?_
  rintro e w1 ⟨d, F, rfl, D, b1, f1⟩
  go_wp2_with fail
  refine (arm_any d F _ 2 (by omega) w1 D).mono ?_
  rintro e w2 ⟨rfl, D2, x2⟩
  have b2 : Below w.heap.size w w2 := b1.trans ((x2.mono b1.size).toBelow (by simpa using f1 d D.mem))
  clear D x2 b1
  go_wp2_with fail
  have hb : Below w2.heap.size w2 (w2.alloc (.cells #[.int .u8 97, .int .u8 98, .int .u8 99] 5 (3, 4))) := (Below.refl _ _).alloc (Nat.le_refl _) _
  refine (write_any d F _ 1 (some ⟨w2.heap.size, 0, none⟩) 3 3 [97, 98, 99] _ (D2.below hb) ⟨by decide, by decide, by decide⟩ rfl (sees_const [d] w2 (by simpa using D2.lt) [97, 98, 99] _ rfl _) (Nat.le_refl _) (by decide)).mono ?_
  rw [show writeO (armO ⟨fun _ => [], false, false, 0⟩ 2) 1 [97, 98, 99] = (280, ⟨L1, true, false, 0⟩) from rfl]
  rintro e w3 ⟨rfl, F3, D3, t3⟩
  obtain ⟨b3, f3⟩ := t3.all (b2.trans (hb.mono b2.size)) f1
  clear hb D2 t3 b2 f1
  go_wp2_with fail
  refine (read_any d F3 _ 1 w3 D3 ⟨by decide, by decide, by decide⟩).mono ?_
  rw [show readO ⟨L1, true, false, 0⟩ 1 = ([], 280) from rfl]
  rintro e w4 ⟨v4, rfl, o4, c4⟩
  have b4 := b3.trans (c4.mono b3.size)
  have D4 := D3.below c4
  clear D3 c4 b3 o4
  go_wp2_with fail
  refine (off_any d F3 _ w4 D4).mono ?_
  rintro e w' ⟨rfl, rfl⟩
  go_wp2_with fail
  refine (wake_any d F3 _ w4 D4).mono ?_
  rintro e w5 ⟨rfl, D5, x5⟩
  have b5 : Below w.heap.size w w5 := b4.trans ((x5.mono b4.size).toBelow (by simpa using f3 d D4.mem))
  clear D4 x5 b4
  go_wp2_with fail
  refine (read_any d F3 _ 1 w5 D5 ⟨by decide, by decide, by decide⟩).mono ?_
  rw [show readO (wakeO ⟨L1, true, false, 0⟩) 1 = ([97, 98], 0) from rfl]
  rintro e w6 ⟨v6, rfl, o6, c6⟩
  obtain ⟨a6, k6, rfl, -, s6⟩ := sees_own o6
  have b6 := b5.trans (c6.mono b5.size)
  have D6 := D5.below c6
  have n6 : ∀ k, (Value.slice a6 [97, 98].length k6).ownBlock = some k → k ∉ F3 := fun k hk hm => by have := (o6.lt k hk).1; have := D5.all k hm; omega
  clear D5 c6 b5 s6
  go_wp2_with fail
  have hb : Below w6.heap.size w6 (w6.alloc (.cells #[.int .u8 120, .int .u8 121, .int .u8 122] 5 (3, 4))) := (Below.refl _ _).alloc (Nat.le_refl _) _
  refine (spoil_any d F3 _ 1 1 (some ⟨w6.heap.size, 0, none⟩) 3 3 [120, 121, 122] _ (D6.below hb) ⟨by decide, by decide, by decide⟩ rfl (sees_const F3 w6 D6.all [120, 121, 122] _ rfl _) (by decide)).mono ?_
  rw [show spoilO (wakeO ⟨L1, true, false, 0⟩) 1 1 [120, 121, 122] = (0, ⟨L2, false, false, 0⟩) from rfl]
  rintro e w7 ⟨rfl, F7, D7, t7⟩
  obtain ⟨b7, f7⟩ := t7.all (b6.trans (hb.mono b6.size)) f3
  have o7 := own_belowE (own_below o6 hb) t7.1 n6
  have n7 : ∀ k, (Value.slice a6 [97, 98].length k6).ownBlock = some k → k ∉ F7 := fun k hk hm => by
    rcases t7.2 k hm with h | h
    · exact n6 k hk h
    · have := (o6.lt k hk).2; have := hb.size; omega
  clear hb D6 t7 b6 f3 o6 n6
  go_wp2_with fail
  refine (read_any d F7 _ 1 w7 D7 ⟨by decide, by decide, by decide⟩).mono ?_
  rw [show readO ⟨L2, false, false, 0⟩ 1 = ([97, 120, 121, 122], 0) from rfl]
  rintro e w8 ⟨v8, rfl, o8, c8⟩
  obtain ⟨a8, k8, rfl, -, s8⟩ := sees_own o8
  have b8 := b7.trans (c8.mono b7.size)
  have D8 := D7.below c8
  have n8 : ∀ k, (Value.slice a8 [97, 120, 121, 122].length k8).ownBlock = some k → k ∉ F7 := fun k hk hm => by have := (o8.lt k hk).1; have := D7.all k hm; omega
  have o9 := own_below o7 c8
  clear D7 c8 b7 s8 o7
  go_wp2_with fail
  refine (cut_any d F7 _ 1 5 w8 D8 ⟨by decide, by decide, by decide⟩).mono ?_
  rw [show cutO ⟨L2, false, false, 0⟩ 1 5 = (1, ⟨L2, false, false, 0⟩) from rfl]
  rintro e w10 ⟨rfl, F10, D10, t10⟩
  obtain ⟨b10, f10⟩ := t10.all b8 f7
  have p1 := own_belowE o8 t10.1 n8
  have p2 := own_belowE o9 t10.1 n7
  obtain ⟨x1, y1, e1, -, s1⟩ := sees_own p1
  obtain ⟨x2, y2, e2, -, s2⟩ := sees_own p2
  injection e1 with e1a e1b e1c
  injection e2 with e2a e2b e2c
  subst e1a e2a e1c e2c
  clear e1b e2b
  have hcv1 : (convert 30 9 (.slice a6 2 k6)).run Try.prog w10 = .ok (.string ⟨#[97, 98]⟩) w10 := conv_sees _ 9 5 Try.underlying30 Try.underlying5 Try.underlying9 s2 2 k6 rfl
  have hcv2 : (convert 30 9 (.slice a8 4 k8)).run Try.prog w10 = .ok (.string ⟨#[97, 120, 121, 122]⟩) w10 := conv_sees _ 9 5 Try.underlying30 Try.underlying5 Try.underlying9 s1 4 k8 rfl
  clear p1 p2 s1 s2 o8 o9 D8 t10 b8 f7 n7 n8
  go_wp2_with fail
  refine (off_any d F10 _ w10 D10).mono ?_
  rintro e w' ⟨rfl, rfl⟩
  go_wp2_with fail
  refine (clear_any d F10 _ 1 w10 D10 ⟨by decide, by decide, by decide⟩).mono ?_
  rw [show cutO ⟨L2, false, false, 0⟩ 1 0 = (0, ⟨upd L2 1 [], false, false, 0⟩) from rfl]
  rintro e w11 ⟨rfl, F11, D11, t11⟩
  obtain ⟨b11, f11⟩ := t11.all b10 f10
  clear hcv1 hcv2
  go_wp2_with fail
  refine (write_any d F11 _ 2 none 0 0 [] w11 D11 ⟨by decide, by decide, by decide⟩ rfl (.inl rfl) (Nat.le_refl _) (by decide)).mono ?_
  rw [show writeO ⟨upd L2 1 [], false, false, 0⟩ 2 [] = (1, ⟨upd L2 1 [], false, false, 0⟩) from rfl]
  rintro e w12 ⟨rfl, F12, D12, t12⟩
  obtain ⟨b12, f12⟩ := t12.all b11 f11
  go_wp2
  go_ret
  exact ⟨rfl, b12⟩
end Go.Proofs.Ytjhakmpinloioaa
