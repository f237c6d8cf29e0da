/-
  Words and walks under the law's proof.
-/
import Derived.Test.YtbpaoiajfjkmfaaQM03
namespace Go.Proofs.Ytbpaoiajfjkmfaa
open Go.RowKit
set_option linter.unusedVariables false
set_option linter.unusedSimpArgs false
theorem mov_small {l : List AlD} (f m t : Int) (h : ∀ a ∈ l, (a.fn.size ≤ 300 ∧ a.file.size ≤ 300 ∧ a.expr.size ≤ 300)) : ∀ a ∈ l.map (movA f m t), smallA a := by
  intro a ha
  obtain ⟨b, hb, rfl⟩ := List.mem_map.1 ha
  obtain ⟨h1, h2, h3⟩ := h b hb
  refine ⟨h1, ?_, h3⟩
  show ((⟨#[108, 105, 98, 47]⟩ : ByteArray) ++ b.file).size ≤ 400
  rw [ByteArray.size_append]
  have : (⟨#[108, 105, 98, 47]⟩ : ByteArray).size = 4 := rfl
  omega
theorem mov_w {l : List AlD} {f m t : Int} (hm : 0 ≤ m) (hm2 : m ≤ 1000) (ht : 1 ≤ t) (ht2 : t ≤ 1000) (h : ∀ a ∈ l, alW a) (hl : ∀ a ∈ l, 0 ≤ a.line ∧ a.line ≤ 1073741824) (hs : ∀ a ∈ l, (a.fn.size ≤ 300 ∧ a.file.size ≤ 300 ∧ a.expr.size ≤ 300)) : ∀ a ∈ l.map (movA f m t), alW a := by
  intro a ha
  obtain ⟨b, hb, rfl⟩ := List.mem_map.1 ha
  obtain ⟨h1, h2, h3, h4, h5, h6⟩ := h b hb
  refine ⟨h1, h2, h3, ?_, ?_, h6⟩
  · have := (mov_small f m t hs _ ha).2.1
    omega
  · obtain ⟨g1, g2⟩ := hl b hb
    have e1 : 0 ≤ t * b.line := Int.mul_nonneg (by omega) g1
    have e2 : t * b.line ≤ 1000 * 1073741824 := Int.mul_le_mul ht2 g2 g1 (by omega)
    show (Lit.int .i64 (movL f m t b.line)).wf = true
    unfold movL
    split <;> (simp [Lit.wf, IntKind.min, IntKind.max, IntKind.signed, IntKind.bits]; omega)
set_option maxRecDepth 100000 in
set_option maxHeartbeats 8000000 in
theorem fingerMoves_walk (w : World) (sl : Option Addr) (n c : Nat) (row : AlSl w sl n c) (f : Int) (hf : (Lit.int .i64 f).wf = true) (m : Int) (hm : (Lit.int .i64 m).wf = true) (t : Int) (ht : (Lit.int .i64 t).wf = true) :
    Calls Try.prog 4 #[.slice sl n c, .int .i64 f, .int .i64 m, .int .i64 t] w (Gives (.bool true) w) := by
  obtain ⟨l, hRO, hW, hnb⟩ := row
  have qL := Lib.hid (alarge_any l sl n c w hRO hW)
  have qlv := Lib.hid (fun W => flives_any W)
  have hn2 : (n : Int) ≤ 9223372036854775807 := by omega
  cases hbig : bigA l with
  | true =>
    rw [hbig] at qL
    clear hbig hRO hW
    go_enter Try.func4, Try.ntmps4
    go_wp2_with fail
    with_reducible refine qL.out.mono ?_
    rintro e w1 ⟨rfl, rfl⟩
    go_wp2_with fail
    with_reducible refine (qlv.out _).mono ?_
    rintro e w2 ⟨rfl, b2⟩
    have b2' := Lib.hid b2
    clear b2
    go_wp2
    go_ret
    exact ⟨rfl, b2'.out⟩
  | false =>
  have hsm := small_of hbig
  rw [hbig] at qL
  clear hbig
  by_cases m0 : m < 0
  · clear hRO hW hsm
    go_enter Try.func4, Try.ntmps4
    go_wp2_with fail
    with_reducible refine qL.out.mono ?_
    rintro e w1 ⟨rfl, rfl⟩
    go_wp2_with fail
    with_reducible refine (qlv.out _).mono ?_
    rintro e w2 ⟨rfl, b2⟩
    have b2' := Lib.hid b2
    clear b2
    go_wp2
    go_ret
    exact ⟨rfl, b2'.out⟩
  have m0b : decide (m < 0) = false := decide_eq_false m0
  by_cases m1 : 1000 < m
  · clear hRO hW hsm
    go_enter Try.func4, Try.ntmps4
    go_wp2_with fail
    with_reducible refine qL.out.mono ?_
    rintro e w1 ⟨rfl, rfl⟩
    go_wp2_with fail
    with_reducible refine (qlv.out _).mono ?_
    rintro e w2 ⟨rfl, b2⟩
    have b2' := Lib.hid b2
    clear b2
    go_wp2
    go_ret
    exact ⟨rfl, b2'.out⟩
  have m1b : decide (1000 < m) = false := decide_eq_false m1
  by_cases t0 : t < 1
  · clear hRO hW hsm
    go_enter Try.func4, Try.ntmps4
    go_wp2_with fail
    with_reducible refine qL.out.mono ?_
    rintro e w1 ⟨rfl, rfl⟩
    go_wp2_with fail
    with_reducible refine (qlv.out _).mono ?_
    rintro e w2 ⟨rfl, b2⟩
    have b2' := Lib.hid b2
    clear b2
    go_wp2
    go_ret
    exact ⟨rfl, b2'.out⟩
  have t0b : decide (t < 1) = false := decide_eq_false t0
  by_cases t1 : 1000 < t
  · clear hRO hW hsm
    go_enter Try.func4, Try.ntmps4
    go_wp2_with fail
    with_reducible refine qL.out.mono ?_
    rintro e w1 ⟨rfl, rfl⟩
    go_wp2_with fail
    with_reducible refine (qlv.out _).mono ?_
    rintro e w2 ⟨rfl, b2⟩
    have b2' := Lib.hid b2
    clear b2
    go_wp2
    go_ret
    exact ⟨rfl, b2'.out⟩
  have t1b : decide (1000 < t) = false := decide_eq_false t1
  have hlen := hRO.len
  have hn100 : n ≤ 100 := by have := hsm.1; omega
  have hS : ∀ a ∈ l, smallA a := fun a ha => by have := hsm.2 a ha; exact ⟨this.1, by have := this.2.1; omega, this.2.2⟩
  have hR' := Lib.hid hRO
  have hml : Hid (∀ k, k < n → alcells ((l.take (k + 1)).map (movA f m t)) = alcells ((l.take k).map (movA f m t) ++ [movA f m t (l.getD k al0)])) := Lib.hid (fun k hk => by
    rw [hlen] at hk
    congr 1
    rw [List.take_add_one, List.map_append]
    simp [List.getD, hk])
  have hsz : Hid (∀ k, k < n → (l.getD k al0).file.size ≤ 300) := Lib.hid (fun k hk => by
    rw [hlen] at hk
    exact (hsm.2 (l.getD k al0) (by simp [List.getD, hk])).2.1)
  have hend : Hid ((∀ k, k < n → 0 ≤ (l.getD k al0).line ∧ (l.getD k al0).line ≤ 1073741824) → ∀ (W : World) (a : Option Addr) (c2 : Nat), RO alC W a n c2 ((l.take n).map (movA f m t)) → Calls Try.prog 15 #[.slice a n c2] W (Made 29 .u64 W (fingA l))) := Lib.hid (fun hg W a c2 h => by
    rw [List.take_of_length_le (by omega)] at h
    have hl : ∀ a ∈ l, 0 ≤ a.line ∧ a.line ≤ 1073741824 := fun a ha => by
      obtain ⟨i, hi, e⟩ := List.getElem_of_mem ha
      have q := hg i (by omega)
      have e2 : l.getD i al0 = a := by rw [← e]; simp [List.getD, hi]
      rw [e2] at q
      exact q
    have q := fofs_any _ a n c2 W h (mov_w (by omega) (by omega) (by omega) (by omega) hW hl hsm.2) (mov_small f m t hsm.2) hn100
    rw [fing_is _ h.len, fing_moves l f m t (by omega) (by omega)] at q
    exact q)
  have qO := Lib.hid (fun (W : World) (h : RO alC W sl n c l) => (show Calls Try.prog 15 #[.slice sl n c] W (Made 29 .u64 W (fingA l)) from by
    have q := fofs_any l sl n c W h hW hS hn100
    rwa [fing_is l h.len] at q))
  have hfl : Hid ((fingA l).length = n) := Lib.hid (by rw [fing_len, hlen])
  have qS := Lib.hid (fun (a1 a2 : Option Addr) (n1 n2 c1 c2 : Nat) (W : World) (h1 : SU .u64 W a1 n1 c1 (fingA l)) (h2 : SU .u64 W a2 n2 c2 (fingA l)) => (show Calls Try.prog 14 #[.slice a1 n1 c1, .slice a2 n2 c2] W (DrawnT (.bool true) W) from by
    have q := rfsame_any a1 a2 (fingA l) (fingA l) n1 n2 c1 c2 W h1 h2
    rwa [decide_eq_true rfl] at q))
  clear hRO hW hsm hS hlen hnb
  generalize fingA l = FL at *
  have hm0 : 0 ≤ m := by omega
  have hm1 : m ≤ 1000 := by omega
  have ht0 : 1 ≤ t := by omega
  have ht1 : t ≤ 1000 := by omega
  go_enter Try.func4, Try.ntmps4
  go_wp2_with fail
  with_reducible refine qL.out.mono ?_
  rintro e w1 ⟨rfl, rfl⟩
  clear qL
  go_wp2
  go_loopw [9, 10] (fun v x wr => ∃ k : Nat, k ≤ n ∧ x = .int .i64 k ∧ Hid (wr.ownsRow w.heap.size 24 6 v k (alcells ((l.take k).map (movA f m t)))) ∧ Hid (Below w.heap.size w wr) ∧ Hid (∀ j, j < k → 0 ≤ (l.getD j al0).line ∧ (l.getD j al0).line ≤ 1073741824)) (fun _ x _ => n - (intOf x).toNat)
  case atStart => exact ⟨0, Nat.zero_le _, rfl, Lib.hid (own_al_nil _ _), Lib.hid (Below.refl _ _), Lib.hid (fun j hj => by omega)⟩
  case round =>
    obtain ⟨k, hk, rfl, hO, hB, hA⟩ := hrel
    generalize wr = g0 at *
    by_cases hlt : k < n
    · have hki : (k : Int) < (n : Int) := by omega
      obtain ⟨b, off, rfl, hlb, x0, x1, x2, x3, x4, x5⟩ := al_at (hR'.out.below hB.out) hlt
      have hstep := Lib.hid (hml.out k hlt)
      have hz := hsz.out k hlt
      have hA2 : Hid (0 ≤ (l.getD k al0).line → (l.getD k al0).line ≤ 1073741824 → ∀ j, j < k + 1 → 0 ≤ (l.getD j al0).line ∧ (l.getD j al0).line ≤ 1073741824) := Lib.hid (fun h1 h2 j hj => by
        by_cases e : j = k
        · rw [e]; exact ⟨h1, h2⟩
        · exact hA.out j (by omega))
      clear hA
      generalize l.getD k al0 = A at *
      obtain ⟨ak, av, af, ai, al, ax⟩ := A
      dsimp only at *
      by_cases l0 : al < 0
      · clear hA2 hstep
        go_wp2_with fail
        with_reducible refine (qlv.out _).mono ?_
        rintro e g1 ⟨rfl, b1⟩
        have B1 := Lib.hid (hB.out.trans (((box_below g0 #[.int .i64 ak, .int .i64 av, .string af, .string ai, .int .i64 al, .string ax] 24).trans (b1.mono (by simp))).mono hB.out.size))
        clear b1
        go_wp2
        go_ret
        exact ⟨rfl, B1.out⟩
      have l0b : decide (al < 0) = false := decide_eq_false l0
      by_cases l1 : 1073741824 < al
      · clear hA2 hstep
        go_wp2_with fail
        with_reducible refine (qlv.out _).mono ?_
        rintro e g1 ⟨rfl, b1⟩
        have B1 := Lib.hid (hB.out.trans (((box_below g0 #[.int .i64 ak, .int .i64 av, .string af, .string ai, .int .i64 al, .string ax] 24).trans (b1.mono (by simp))).mono hB.out.size))
        clear b1
        go_wp2
        go_ret
        exact ⟨rfl, B1.out⟩
      have l1b : decide (1073741824 < al) = false := decide_eq_false l1
      have hA3 := Lib.hid (hA2.out (by omega) (by omega))
      have e1 : 0 ≤ t * al := Int.mul_nonneg (by omega) (by omega)
      have e2 : t * al ≤ 1000 * 1073741824 := Int.mul_le_mul ht1 (by omega) (by omega) (by omega)
      have e2' : t * al ≤ 1073741824000 := by omega
      have wr1 : wrap64 (t * al) = t * al := by unfold wrap64; omega
      have s4 : (⟨#[108, 105, 98, 47]⟩ : ByteArray).size = 4 := rfl
      have hcat : ¬ 9223372036854775807 < 4 + ai.size := by omega
      clear hA2 e2
      by_cases hf : f ≤ al
      · have hmv : Hid (movA f m t ⟨ak, av, af, ai, al, ax⟩ = ⟨ak, av, af, (⟨#[108, 105, 98, 47]⟩ : ByteArray) ++ ai, t * al + m, ax⟩) := Lib.hid (by unfold movA movL; simp only []; rw [if_pos hf])
        have wr2 : wrap64 (t * al + m) = t * al + m := by unfold wrap64; omega
        rw [hmv.out] at hstep
        have hfb : decide (f ≤ al) = true := decide_eq_true hf
        clear hmv
        have hB1 := Lib.hid (box_below g0 #[.int .i64 ak, .int .i64 av, .string af, .string ((⟨#[108, 105, 98, 47]⟩ : ByteArray) ++ ai), .int .i64 (t * al + m), .string ax] 24)
        have hO1 := Lib.hid (own_below hO.out hB1.out)
        have hBB := Lib.hid (hB.out.trans (hB1.out.mono hB.out.size))
        clear hO hB hB1
        go_wp2_with (at_builtin; go_loud (refine wpList_append_al _ rfl (.tmp 71) (.tmp 73) rfl w _ k _ hO1.out hBB.out ⟨ak, av, af, (⟨#[108, 105, 98, 47]⟩ : ByteArray) ++ ai, t * al + m, ax⟩ rfl _ rfl (by simp) (by omega) ?_); intro v' g2 o2 b2; have O2 := Lib.hid o2; have B2 := Lib.hid b2; clear o2 b2)
        rw [← hstep.out] at O2
        clear hstep hO1 hBB
        go_wp2
        go_roundw
        case rel => exact ⟨k + 1, by omega, by go_num, O2, B2, hA3⟩
        case measure => simp [intOf]; omega
      · have hmv : Hid (movA f m t ⟨ak, av, af, ai, al, ax⟩ = ⟨ak, av, af, (⟨#[108, 105, 98, 47]⟩ : ByteArray) ++ ai, t * al, ax⟩) := Lib.hid (by unfold movA movL; simp only []; rw [if_neg hf])
        rw [hmv.out] at hstep
        have hfb : decide (f ≤ al) = false := decide_eq_false hf
        clear hmv
        have hB1 := Lib.hid (box_below g0 #[.int .i64 ak, .int .i64 av, .string af, .string ((⟨#[108, 105, 98, 47]⟩ : ByteArray) ++ ai), .int .i64 (t * al), .string ax] 24)
        have hO1 := Lib.hid (own_below hO.out hB1.out)
        have hBB := Lib.hid (hB.out.trans (hB1.out.mono hB.out.size))
        clear hO hB hB1
        go_wp2_with (at_builtin; go_loud (refine wpList_append_al _ rfl (.tmp 71) (.tmp 73) rfl w _ k _ hO1.out hBB.out ⟨ak, av, af, (⟨#[108, 105, 98, 47]⟩ : ByteArray) ++ ai, t * al, ax⟩ rfl _ rfl (by simp) (by omega) ?_); intro v' g2 o2 b2; have O2 := Lib.hid o2; have B2 := Lib.hid b2; clear o2 b2)
        rw [← hstep.out] at O2
        clear hstep hO1 hBB
        go_wp2
        go_roundw
        case rel => exact ⟨k + 1, by omega, by go_num, O2, B2, hA3⟩
        case measure => simp [intOf]; omega
    · obtain rfl : k = n := by omega
      have hki : ¬ (k : Int) < (k : Int) := by omega
      obtain ⟨am, cm, rfl, hRm⟩ := ro_own hO.out
      have hRm' := Lib.hid hRm
      have hend' := Lib.hid (hend.out hA.out)
      clear hRm hO hend hA hml hsz
      go_wp2_with fail
      with_reducible refine (qlv.out _).mono ?_
      rintro e g1 ⟨rfl, b1⟩
      have b1' := Lib.hid b1
      clear b1
      go_wp2_with fail
      with_reducible refine (hend'.out g1 am cm (hRm'.out.below b1'.out)).mono ?_
      rintro e g2 h2
      obtain ⟨a2, c2, rfl, s2, b2⟩ := h2.open _ hfl.out
      have s2' := Lib.hid s2
      have B2 := Lib.hid ((hB.out.trans (b1'.out.mono hB.out.size)).trans (b2.mono (Nat.le_trans hB.out.size b1'.out.size)))
      clear h2 s2 b2 hend' hRm' b1' hB
      go_wp2_with fail
      with_reducible refine (qO.out g2 (hR'.out.below B2.out)).mono ?_
      rintro e g3 h3
      obtain ⟨a3, c3, rfl, s3, b3⟩ := h3.open _ hfl.out
      have s3' := Lib.hid s3
      have b3' := Lib.hid b3
      clear h3 s3 b3
      go_wp2_with fail
      with_reducible refine (qS.out a2 a3 k k c2 c3 g3 ⟨hfl.out.symm, by omega, (s2'.out.below b3'.out).mono b3'.out.size⟩ ⟨hfl.out.symm, by omega, s3'.out⟩).mono ?_
      rintro e g4 ⟨rfl, q, rfl⟩
      have B4 := Lib.hid (Below.drewN (B2.out.trans (b3'.out.mono B2.out.size)) q)
      clear B2 b3' s2' s3'
      go_wp2
      go_ret
      exact ⟨rfl, B4.out⟩
end Go.Proofs.Ytbpaoiajfjkmfaa
