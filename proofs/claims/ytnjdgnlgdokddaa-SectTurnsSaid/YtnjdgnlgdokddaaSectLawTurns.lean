/- SectTurns: the walk of the statement's function. -/
import Derived.Test.YtnjdgnlgdokddaaSectLawPuts
import Derived.Test.YtnjdgnlgdokddaaSectTurnSpec
import Derived.Test.YtnjdgnlgdokddaaCrcTurn
namespace Go.Proofs.Ytnjdgnlgdokddaa
open Go.RowKit
set_option linter.unusedVariables false
set_option linter.unusedSimpArgs false

theorem split_last {l : List Sc} {m : Nat} (h : l.length = m + 1) : l.map absS = (l.take m).map absS ++ [((l.getD m sc0).tag, (l.getD m sc0).b)] := by
  have h1 : l = l.take m ++ [l.getD m sc0] := by
    have h2 : m < l.length := by omega
    have : l.getD m sc0 = l[m] := by simp [List.getD, h2]
    rw [this, List.take_append_getElem h2, List.take_of_length_le (by omega)]
  conv => lhs; rw [h1]
  simp [absS]

set_option maxRecDepth 100000 in
set_option maxHeartbeats 4000000 in
theorem sectTurns_walk (w : World) (ro : Option Addr) (len co : Nat) (hrow : SecSl w ro len co) (p : Int) (hpw : (Lit.int .i64 p).wf = true) (x : Int) (hxw : (Lit.int .u32 x).wf = true) :
    Calls Try.prog 7 #[.slice ro len co, .int .i64 p, .int .u32 x] w (Gives (.bool true) w) := by
  obtain ⟨hlc, hcm, L, hLn, hsec⟩ := hrow
  unfold maxLen at hcm
  have hx := u32_wf hxw
  have hp := i64_wf hpw
  clear hxw hpw
  have hlg := Lib.hid (large_any ro L len co 5000 hLn.symm (by omega) (by omega) w hsec)
  have hsec' := Lib.hid hsec
  have hLn' := Lib.hid hLn
  have hli : (len : Int) ≤ 9223372036854775807 := by omega
  clear hsec hLn hlc
  by_cases hn0 : len = 0
  · subst hn0
    clear hlg hsec' hLn'
    go_enter Try.func7, Try.ntmps7
    go_wp2_with fail
    refine (slives_any _).mono ?_
    rintro e w1 ⟨rfl, b1⟩
    have b1' := Lib.hid b1
    clear b1
    go_wp2
    go_ret
    exact ⟨rfl, b1'.out⟩
  obtain ⟨m, hm⟩ : ∃ m, len = m + 1 := ⟨len - 1, by omega⟩
  have hz : ((len : Int) == 0) = false := by simp; omega
  have hi1 : (len : Int) - 1 = (m : Int) := by omega
  have hm1 : m < len := by omega
  clear hn0
  have hm' := Lib.hid hm
  clear hm
  obtain ⟨b, off, rfl, hbb, e1, e2, ok⟩ := hsec'.out.at_ (i := m) (by have := hLn'.out; omega)
  have hsp := Lib.hid (split_last (hLn'.out.trans hm'.out))
  have ok' := Lib.hid ok
  have hck := Lib.hid (rcheck_any (some ⟨b, off, none⟩) L len co hLn'.out.symm (by omega) w hsec'.out)
  clear ok
  go_enter Try.func7, Try.ntmps7
  go_wp2_with fail
  refine hlg.out.mono ?_
  rintro e w' ⟨rfl, rfl | ⟨rfl, h20, htot⟩⟩
  · clear hlg hsec' hck hsp ok' e1 e2
    go_wp2_with fail
    refine (slives_any _).mono ?_
    rintro e w1 ⟨rfl, b1⟩
    have b1' := Lib.hid b1
    clear b1
    go_wp2
    go_ret
    exact ⟨rfl, b1'.out⟩
  by_cases hc0 : checkL (L.map absS) = 0
  rotate_left
  · clear hlg hsec' hsp ok' e1 e2
    generalize checkL (L.map absS) = y at *
    have y1 : (y == 0) = false := by simpa using hc0
    have y2 : (y != 0) = true := by simpa using hc0
    go_wp2_with fail
    refine hck.out.mono ?_
    rintro e w2 ⟨rfl, rfl⟩
    clear hck
    go_wp2_with fail
    refine (slives_any _).mono ?_
    rintro e w1 ⟨rfl, b1⟩
    have b1' := Lib.hid b1
    clear b1
    go_wp2
    go_ret
    exact ⟨rfl, b1'.out⟩
  rw [hc0] at hck
  by_cases ht0 : x = 0
  · subst ht0
    clear hlg hsec' hsp ok' e1 e2
    go_wp2_with fail
    refine hck.out.mono ?_
    rintro e w2 ⟨rfl, rfl⟩
    clear hck
    go_wp2_with fail
    refine (slives_any _).mono ?_
    rintro e w1 ⟨rfl, b1⟩
    have b1' := Lib.hid b1
    clear b1
    go_wp2
    go_ret
    exact ⟨rfl, b1'.out⟩
  have hx0 : (x == 0) = false := by simpa using ht0
  have hok := hsec'.out.ok
  have hM : ∀ s ∈ L, s.b.length ≤ 5000 := fun s hs => by have := total_mem hs; have := (hok s hs).2.1; omega
  obtain ⟨c16, -, -⟩ := checkL_facts hc0
  have hP : (putL (L.map absS)).length ≤ 100000 := by
    have q1 := putL_len 5000 (by omega) hM
    have q3 : L.length ≤ 16 := by simpa using c16
    have q2 : L.length * (5000 + 15) ≤ 16 * (5000 + 15) := Nat.mul_le_mul_right _ q3
    omega
  have hlast : L.getD m sc0 ∈ L := by
    have : m < L.length := by have := hLn'.out; omega
    simp [List.getD, this]
  have hbl : (L.getD m sc0).m ≤ 5000 := by have := total_mem hlast; omega
  have hmb : (L.getD m sc0).m = (L.getD m sc0).b.length := ok'.out.2.1
  have hPb : Bs (putL (L.map absS)) := putL_bs (fun s hs => (hok s hs).2.2.2.2.1)
  have hbs := abs_bs hok
  have hput := Lib.hid (rput_any (some ⟨b, off, none⟩) L len co hLn'.out.symm (by have := hLn'.out; omega) (fun s hs => by have := hM s hs; omega) w hsec'.out)
  have htl : 8 * ((L.getD m sc0).m + 4) ≤ 8 * (putL (L.map absS)).length := by
    rw [hsp.out, hmb]
    simp only [putL, bodyL, List.flatMap_append, List.length_append, List.flatMap_cons, List.flatMap_nil, List.append_nil]
    have := (oneL_len (L.getD m sc0).tag (L.getD m sc0).b (by omega)).2
    omega
  have hturn : Hid (∀ q t : Nat, q + 32 ≤ 8 * ((L.getD m sc0).m + 4) → t ≠ 0 → t < 4294967296 → (getAll (turned (putL (L.map absS)) (8 * (putL (L.map absS)).length - 8 * ((L.getD m sc0).m + 4) + q) t 32)).2.2 = 42) := Lib.hid (fun q t h1 h2 h3 => by
    rw [hmb] at h1 ⊢
    rw [hsp.out] at hbs hc0 ⊢
    exact get_turned hbs hc0 q t h1 h2 h3)
  clear hsp ok' hlg hok hM hlast hmb hbs c16 hc0 htot h20
  obtain ⟨B, hB⟩ : ∃ B, B = putL (L.map absS) := ⟨_, rfl⟩
  rw [← hB] at hP hPb hput htl hturn
  clear hB
  obtain ⟨nB, hnB⟩ : ∃ n, n = B.length := ⟨_, rfl⟩
  rw [← hnB] at hP htl hturn
  have hnB' := Lib.hid hnB
  have hPb' := Lib.hid hPb
  have hnBi : (nB : Int) ≤ 100000 := by omega
  have hbli : ((L.getD m sc0).m : Int) ≤ 5000 := by omega
  clear hnB hPb hsec'
  generalize (L.getD m sc0).m = mm at *
  generalize (L.getD m sc0).a = ad at *
  generalize (L.getD m sc0).c = cc at *
  generalize (L.getD m sc0).tag = tg at *
  go_wp2_with fail
  refine hck.out.mono ?_
  rintro e w2 ⟨rfl, rfl⟩
  clear hck
  go_wp2_with fail
  refine hput.out.mono ?_
  intro e w1 hmade
  obtain ⟨a3, c3, rfl, s3, b1⟩ := hmade.open nB hnB'.out.symm
  have f1 : w1.cell? ⟨b, off + m * 2 + 1, none⟩ = some (.slice ad mm cc) := (b1.cell (p := ⟨b, off + m * 2 + 1, none⟩) (by simp; omega)).trans e2
  have f0 : w1.cell? ⟨b, off + m * 2, none⟩ = some (.int .i64 tg) := (b1.cell (p := ⟨b, off + m * 2, none⟩) (by simp; omega)).trans e1
  have b1' := Lib.hid b1
  have s3' := Lib.hid s3
  clear hmade hput s3 b1 e1 e2
  by_cases hp0 : p < 0
  · go_wp2_with fail
    refine (slives_any _).mono ?_
    rintro e w3 ⟨rfl, b3⟩
    have b3' := Lib.hid b3
    clear b3
    go_wp2
    go_ret
    exact ⟨rfl, b1'.out.trans (b3'.out.mono b1'.out.size)⟩
  obtain ⟨q, rfl⟩ := Int.eq_ofNat_of_zero_le (show 0 ≤ p by omega)
  by_cases hp1 : 8 * ((mm : Int) + 4) - 32 < (q : Int)
  · go_wp2_with fail
    refine (slives_any _).mono ?_
    rintro e w3 ⟨rfl, b3⟩
    have b3' := Lib.hid b3
    clear b3
    go_wp2
    go_ret
    exact ⟨rfl, b1'.out.trans (b3'.out.mono b1'.out.size)⟩
  obtain ⟨t, rfl⟩ := Int.eq_ofNat_of_zero_le hx.1
  have h42 := Lib.hid (hturn.out q t (by omega) (by omega) (by omega))
  obtain ⟨s, hs⟩ : ∃ s, s = 8 * nB - 8 * (mm + 4) + q := ⟨_, rfl⟩
  rw [← hs] at h42
  have hsi : 8 * (nB : Int) - 8 * ((mm : Int) + 4) + (q : Int) = (s : Int) := by omega
  have hT := Lib.hid (turn_any a3 B nB c3 hnB'.out w1.heap.size w1 (by have := hnB'.out; omega) hPb'.out s3'.out (Nat.le_refl _) s t (by have := hnB'.out; omega) (by omega))
  have hTl : Hid ((turned B s t 32).length = nB) := Lib.hid ((turned_length B s t 32).trans hnB'.out.symm)
  have hTb := Lib.hid (turned_bs hPb'.out s t 32)
  clear hs hturn
  generalize turned B s t 32 = T at *
  go_wp2_with fail
  refine hT.out.mono ?_
  intro e w3 hmade
  obtain ⟨a4, c4, rfl, s4, b3, hc4⟩ := hmade.openc nB hTl.out
  have hget := Lib.hid (sget_any a4 T nB c4 hTl.out.symm (by omega) hc4 hTb.out w3 s4)
  have b3' := Lib.hid (b1'.out.trans (b3.mono b1'.out.size))
  obtain ⟨R, hR⟩ : ∃ R, R = getAll T := ⟨_, rfl⟩
  rw [← hR] at hget h42
  clear hmade s4 b3 hc4 hT hTb hTl b1' s3' hR hnB' hPb'
  go_wp2_with fail
  refine hget.out.mono ?_
  rintro e w4 ⟨b4, a5, c5, ls, -, rfl, hc5, hl5, -⟩
  rw [h42.out]
  have b4' := Lib.hid (b3'.out.trans (b4.mono b3'.out.size))
  clear b4 hget b3'
  go_wp2_with fail
  refine (slives_any _).mono ?_
  rintro e w5 ⟨rfl, b5⟩
  have b5' := Lib.hid (b4'.out.trans (b5.mono b4'.out.size))
  clear b5
  go_wp2
  go_ret
  exact ⟨rfl, b5'.out⟩
end Go.Proofs.Ytnjdgnlgdokddaa
