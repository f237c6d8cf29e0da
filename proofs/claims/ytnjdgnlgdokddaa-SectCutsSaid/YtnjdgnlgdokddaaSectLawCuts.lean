/- SectCuts: the walk of the statement's function. -/
import Derived.Test.YtnjdgnlgdokddaaSectLawPuts
import Derived.Test.YtnjdgnlgdokddaaSectCutSpec
namespace Go.Proofs.Ytnjdgnlgdokddaa
open Go.RowKit
set_option linter.unusedVariables false
set_option linter.unusedSimpArgs false

theorem put_le {l : List (Int × List Int)} {k k' : Nat} (h : k ≤ k') : (putL (l.take k)).length ≤ (putL (l.take k')).length := by
  have h1 : l.take k' = l.take k ++ (l.take k').drop k := by
    conv => lhs; rw [← List.take_append_drop k (l.take k')]
    rw [List.take_take, Nat.min_eq_left h]
  rw [h1]
  unfold putL
  rw [bodyL_app]
  simp only [List.length_append]
  omega
theorem put_lt {l : List (Int × List Int)} {k k' : Nat} (hl : ∀ s ∈ l, s.2.length ≤ 1048576) (h : k < k') (hk : k < l.length) : (putL (l.take k)).length < (putL (l.take k')).length := by
  refine Nat.lt_of_lt_of_le ?_ (put_le (show k + 1 ≤ k' by omega))
  have h1 : l.take (k + 1) = l.take k ++ [l[k]] := by rw [List.take_append_getElem hk]
  rw [h1]
  unfold putL
  rw [bodyL_app]
  have := (oneL_len l[k].1 l[k].2 (by have := hl l[k] (List.getElem_mem hk); omega)).2
  simp only [List.length_append, bodyL, List.flatMap_cons, List.flatMap_nil, List.append_nil]
  omega

set_option maxRecDepth 100000 in
set_option maxHeartbeats 4000000 in
theorem sectCuts_walk (w : World) (ro : Option Addr) (len co : Nat) (hrow : SecSl w ro len co) (p : Int) (hpw : (Lit.int .i64 p).wf = true) :
    Calls Try.prog 6 #[.slice ro len co, .int .i64 p] w (Gives (.bool true) w) := by
  obtain ⟨hlc, hcm, L, hLn, hsec⟩ := hrow
  unfold maxLen at hcm
  have hp := i64_wf hpw
  clear hpw
  have hlg := Lib.hid (large_any ro L len co 5000 hLn.symm (by omega) (by omega) w hsec)
  have hsec' := Lib.hid hsec
  have hLn' := Lib.hid hLn
  have hli : (len : Int) ≤ 9223372036854775807 := by omega
  have hck := Lib.hid (rcheck_any ro L len co hLn.symm (by omega) w hsec)
  clear hsec hLn
  go_enter Try.func6, Try.ntmps6
  go_wp2_with fail
  refine hlg.out.mono ?_
  rintro e w' ⟨rfl, rfl | ⟨rfl, h20, htot⟩⟩
  · clear hlg hsec' hck
    go_wp2_with fail
    refine (slives_any _).mono ?_
    rintro e w1 ⟨rfl, b1⟩
    have b1' := Lib.hid b1
    clear b1
    go_wp2
    go_ret
    exact ⟨rfl, b1'.out⟩
  by_cases hc0 : checkL (L.map absS) = 0
  rotate_left
  · clear hlg hsec'
    generalize checkL (L.map absS) = y at *
    have y1 : (y == 0) = false := by simpa using hc0
    have y2 : (y != 0) = true := by simpa using hc0
    go_wp2_with fail
    refine hck.out.mono ?_
    rintro e w2 ⟨rfl, rfl⟩
    clear hck
    go_wp2_with fail
    refine (slives_any _).mono ?_
    rintro e w1 ⟨rfl, b1⟩
    have b1' := Lib.hid b1
    clear b1
    go_wp2
    go_ret
    exact ⟨rfl, b1'.out⟩
  rw [hc0] at hck
  have hok := hsec'.out.ok
  have hM : ∀ s ∈ L, s.b.length ≤ 5000 := fun s hs => by have := total_mem hs; have := (hok s hs).2.1; omega
  have hM2 : Hid (∀ s ∈ L, s.b.length ≤ 2000000) := Lib.hid (fun s hs => by have := hM s hs; omega)
  obtain ⟨c16, hall, -⟩ := checkL_facts hc0
  have hP : (putL (L.map absS)).length ≤ 100000 := by
    have q1 := putL_len 5000 (by omega) hM
    have q3 : L.length ≤ 16 := by simpa using c16
    have q2 : L.length * (5000 + 15) ≤ 16 * (5000 + 15) := Nat.mul_le_mul_right _ q3
    omega
  have hl20 : Hid (len ≤ 20) := Lib.hid (by have := hLn'.out; omega)
  have hPb : Bs (putL (L.map absS)) := putL_bs (fun s hs => (hok s hs).2.2.2.2.1)
  have hbs := abs_bs hok
  have hput := Lib.hid (rput_any ro L len co hLn'.out.symm (by have := hl20.out; omega) hM2.out w hsec'.out)
  have hputk : Hid (∀ k, k ≤ len → ∀ W, Below w.heap.size w W → Calls Try.prog 13 #[.slice ro k co] W (Made 5 .u8 W (putL ((L.map absS).take k)))) := Lib.hid (fun k hk W hW => by
    have := rput_any ro (L.take k) k co (by rw [List.length_take]; have := hLn'.out; omega) (by have := hl20.out; omega) (fun s hs => hM2.out s (List.mem_of_mem_take hs)) W (((hsec'.out.take k).below hW).mono hW.size)
    rwa [List.map_take] at this)
  have hcut := Lib.hid (fun n h5 hn => get_cut hbs hc0 n h5 hn)
  have hll : (L.map absS).length = len := by simpa using hLn'.out
  have hlt := Lib.hid (fun k k' (h : k < k') (hk : k < len) => put_lt (l := L.map absS) hall h (by omega))
  obtain ⟨B, hB⟩ : ∃ B, B = putL (L.map absS) := ⟨_, rfl⟩
  rw [← hB] at hP hPb hput hcut
  obtain ⟨nB, hnB⟩ : ∃ n, n = B.length := ⟨_, rfl⟩
  rw [← hnB] at hP hcut
  have hnB' := Lib.hid hnB
  have hPb' := Lib.hid hPb
  have hnBi : (nB : Int) ≤ 100000 := by omega
  clear hnB hPb hB hlg hok hM hbs c16 hall htot h20 hc0
  go_wp2_with fail
  refine hck.out.mono ?_
  rintro e w2 ⟨rfl, rfl⟩
  clear hck
  go_wp2_with fail
  refine hput.out.mono ?_
  intro e w1 hmade
  obtain ⟨a3, c3, rfl, s3, b1, hc3⟩ := hmade.openc nB hnB'.out.symm
  have b1' := Lib.hid b1
  have s3' := Lib.hid s3
  clear hmade hput s3 b1
  by_cases hp0 : p < 5
  · go_wp2_with fail
    refine (slives_any _).mono ?_
    rintro e w3 ⟨rfl, b3⟩
    have b3' := Lib.hid b3
    clear b3
    go_wp2
    go_ret
    exact ⟨rfl, b1'.out.trans (b3'.out.mono b1'.out.size)⟩
  obtain ⟨q, rfl⟩ := Int.eq_ofNat_of_zero_le (show 0 ≤ p by omega)
  by_cases hp1 : (nB : Int) ≤ (q : Int)
  · go_wp2_with fail
    refine (slives_any _).mono ?_
    rintro e w3 ⟨rfl, b3⟩
    have b3' := Lib.hid b3
    clear b3
    go_wp2
    go_ret
    exact ⟨rfl, b1'.out.trans (b3'.out.mono b1'.out.size)⟩
  obtain ⟨k0, hk0, hk1, hk2, hres⟩ := hcut.out q (by omega) (by omega)
  have hTl : (B.take q).length = q := by rw [List.length_take]; have := hnB'.out; omega
  have hget := Lib.hid (sget_any a3 (B.take q) q c3 hTl.symm (by omega) (by omega) (fun x hx => hPb'.out x (List.mem_of_mem_take hx)) w1 (s3'.out.take q))
  have hqc : (q : Int) ≤ (c3 : Int) := by omega
  have hqc2 : q ≤ c3 := by omega
  clear hcut hTl
  generalize getAll (B.take q) = R at *
  go_wp2_with fail
  refine hget.out.mono ?_
  rintro e w4 ⟨b4, a5, c5, ls, hls, rfl, hc5, hl5, sec5⟩
  have b4' := Lib.hid (b1'.out.trans (b4.mono b1'.out.size))
  have sec5' := Lib.hid sec5
  have hls' := Lib.hid hls
  clear b4 sec5 hls hget
  rcases hres with ⟨hq, hr⟩ | ⟨hq, hr1, hr2⟩
  · have hr2 : R.2.2 = 0 := by rw [hr]
    have hr1 : ls.map absS = (L.map absS).take k0 := by rw [hls'.out, hr]
    rw [hr2]
    have hr1' := Lib.hid hr1
    have hq' := Lib.hid hq
    clear hr hr1 hr2 hls' hq hk1 hk2 s3'
    go_wp2
    go_loopw [9] (fun i wr => ∃ k : Nat, k ≤ k0 ∧ i = .int .i64 k ∧ Hid (Below w4.heap.size w4 wr)) (fun i _ => len - (intOf i).toNat)
    case atStart => exact ⟨0, Nat.zero_le _, rfl, Lib.hid (Below.refl _ _)⟩
    case round =>
      obtain ⟨k, hk, rfl, hbl⟩ := hrel
      have hbw := b4'.out.trans (hbl.out.mono b4'.out.size)
      have hlt0 : k < len := by omega
      have hkc : (k : Int) ≤ (co : Int) := by omega
      have hkc2 : k ≤ co := by omega
      have hpk := Lib.hid (hputk.out k (by omega) wr hbw)
      by_cases hkk : k = k0
      · subst hkk
        have hbw' := Lib.hid hbw
        clear hputk hlt hbw
        go_wp2_with fail
        refine hpk.out.mono ?_
        intro e w5 hmade
        obtain ⟨a6, c6, rfl, s6, b6⟩ := hmade.open q hq'.out.symm
        have b46 := Lib.hid (hbl.out.trans (b6.mono hbl.out.size))
        clear hmade s6 b6 hpk
        go_wp2_with fail
        refine (slives_any _).mono ?_
        rintro e w6 ⟨rfl, b7⟩
        have b47 := Lib.hid (b46.out.trans (b7.mono b46.out.size))
        clear b7 b46
        have hsm := Lib.hid (rsame_any a5 ro ls (L.take k) ls.length k c5 co rfl (by rw [List.length_take]; have := hLn'.out; omega) (by omega) (by have := hl20.out; omega) w6 ((sec5'.out.below b47.out).mono b47.out.size) (by
          have hx := b4'.out.trans (b47.out.mono b4'.out.size)
          exact ((hsec'.out.take k).below hx).mono hx.size))
        rw [show decide (ls.map absS = (L.take k).map absS) = true by rw [hr1'.out, List.map_take]; simp] at hsm
        go_wp2_with fail
        refine hsm.out.mono ?_
        rintro e w7 ⟨rfl, b8⟩
        have b48 := Lib.hid (b47.out.trans (b8.mono b47.out.size))
        clear b8 hsm
        go_wp2
        go_ret
        exact ⟨rfl, b4'.out.trans (b48.out.mono b4'.out.size)⟩
      · have hne : (putL ((L.map absS).take k)).length ≠ q := by
          have := hlt.out k k0 (by omega) hlt0
          have := hq'.out
          omega
        clear hputk hlt hbw
        obtain ⟨pk, hpke⟩ : ∃ n, n = (putL ((L.map absS).take k)).length := ⟨_, rfl⟩
        rw [← hpke] at hne
        have hne2 : ((pk : Int) == (q : Int)) = false := by simp; omega
        have hpke' := Lib.hid hpke
        clear hpke
        go_wp2_with fail
        refine hpk.out.mono ?_
        intro e w5 hmade
        obtain ⟨a6, c6, rfl, s6, b6⟩ := hmade.open pk hpke'.out.symm
        have b46 := Lib.hid (hbl.out.trans (b6.mono hbl.out.size))
        clear hmade s6 b6 hpk hbl
        go_wp2
        go_roundw
        case rel => exact ⟨k + 1, by omega, by go_num, b46⟩
        case measure => simp [intOf]; omega
  · have hl0 : ls.length = 0 := by
      have := hls'.out; rw [hr1] at this; simpa using this
    rw [hr2]
    have hl0' := Lib.hid hl0
    have hne0 : Hid (∀ k, k < len → (putL ((L.map absS).take k)).length ≠ q) := Lib.hid (fun k hk e => by
      rcases Nat.lt_trichotomy k k0 with h | rfl | h
      · have := hlt.out k k0 h hk; omega
      · omega
      · have := put_le (l := L.map absS) (show k0 + 1 ≤ k by omega); omega)
    clear hls' hr1 hr2 hl0 hq hk1 hk2 s3' hlt sec5'
    generalize ls.length = n5 at *
    go_wp2
    go_loopw [9] (fun i wr => ∃ k : Nat, k ≤ len ∧ i = .int .i64 k ∧ Hid (Below w4.heap.size w4 wr)) (fun i _ => len - (intOf i).toNat)
    case atStart => exact ⟨0, Nat.zero_le _, rfl, Lib.hid (Below.refl _ _)⟩
    case round =>
      obtain ⟨k, hk, rfl, hbl⟩ := hrel
      have hbw := b4'.out.trans (hbl.out.mono b4'.out.size)
      by_cases hlt0 : k < len
      · have hkc : (k : Int) ≤ (co : Int) := by omega
        have hkc2 : k ≤ co := by omega
        have hpk := Lib.hid (hputk.out k (by omega) wr hbw)
        have hne := hne0.out k hlt0
        clear hputk hbw
        obtain ⟨pk, hpke⟩ : ∃ n, n = (putL ((L.map absS).take k)).length := ⟨_, rfl⟩
        rw [← hpke] at hne
        have hne2 : ((pk : Int) == (q : Int)) = false := by simp; omega
        have hpke' := Lib.hid hpke
        clear hpke
        go_wp2_with fail
        refine hpk.out.mono ?_
        intro e w5 hmade
        obtain ⟨a6, c6, rfl, s6, b6⟩ := hmade.open pk hpke'.out.symm
        have b46 := Lib.hid (hbl.out.trans (b6.mono hbl.out.size))
        clear hmade s6 b6 hpk hbl
        go_wp2
        go_roundw
        case rel =>
          exact ⟨k + 1, by omega, by go_num, b46⟩
        case measure => simp [intOf]; omega
      · clear hputk hbw
        have hn5 : n5 = 0 := hl0'.out
        go_wp2_with fail
        refine (slives_any _).mono ?_
        rintro e w5 ⟨rfl, b5⟩
        have b45 := Lib.hid (hbl.out.trans (b5.mono hbl.out.size))
        clear b5
        go_wp2
        go_ret
        exact ⟨rfl, b4'.out.trans (b45.out.mono b4'.out.size)⟩
end Go.Proofs.Ytnjdgnlgdokddaa
