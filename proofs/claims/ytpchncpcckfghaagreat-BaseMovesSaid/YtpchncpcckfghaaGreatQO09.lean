/-
  Words and walks under the law's proof.
-/
import Derived.Test.YtpchncpcckfghaaGreatQO03
import Derived.Test.YtpchncpcckfghaaGreatQO05
import Derived.Test.YtpchncpcckfghaaGreatQO06
import Derived.Test.YtpchncpcckfghaaGreatQO08
namespace Go.Proofs.YtpchncpcckfghaaGreat
open Go.RowKit
set_option linter.unusedVariables false
set_option linter.unusedSimpArgs false
def OfE (w : World) (ps : List Int) (s : ByteArray) (e : Ending) (w' : World) : Prop := ∃ a c, e = .returned (.tuple #[.slice a (ofR ps s).length c, .int .i64 0]) ∧ RO mkC w' a (ofR ps s).length c (ofR ps s) ∧ Below w.heap.size w w'
theorem base_bad {s : ByteArray} (h : noteB s = false) : baseB [⟨0, s⟩] = false := by
  unfold baseB
  simp [okAt, h]
set_option maxRecDepth 100000 in
set_option maxHeartbeats 8000000 in
theorem bof_any (w : World) (a2 : Option Addr) (n2 c2 : Nat) (A : List AlD) (s : ByteArray) (hs : noteB s = true) (h2 : RO alC w a2 n2 c2 A) (hW : ∀ s ∈ A, alW s) (hS : ∀ s ∈ A, smallA s) (hn : n2 ≤ 100) (hP : PdqOK n2) :
    Calls Tryz.prog 23 #[.slice a2 n2 c2, .string s] w (OfE w (printsL A n2) s) := by
  have hpl := prints_len A n2
  obtain ⟨W1, hW1⟩ : ∃ V, V = w.alloc (.cells #[.int .u64 0, .string s] 40) := ⟨_, rfl⟩
  have b1 : Below w.heap.size w W1 := by rw [hW1]; exact box_below _ _ _
  have hr : RO mkC W1 (some ⟨w.heap.size, 0, none⟩) 1 1 [⟨0, s⟩] := ⟨rfl, Nat.le_refl _, by simp [maxLen], by rw [hW1]; exact seesC_lit w 40 #[.int .u64 0, .string s]⟩
  have q0 := bbase_any W1 _ 1 1 [⟨0, s⟩] hr
  rw [bchk_yes (base_one hs)] at q0
  have Q0 := Lib.hid q0
  have qf := Lib.hid (fun W hB => fofs_any A a2 n2 c2 W (h2.below hB) hW hS hn)
  have hp' : Hid (printsL A n2 = (List.range n2).map (fun i => oneK (keyA (A.getD i al0)) (rankA A i))) := Lib.hid rfl
  rw [← hp'.out] at qf
  have qs := Lib.hid (fun base v W ho => usort_any base n2 v (printsL A n2) hpl.symm (by omega) hP W ho)
  generalize printsL A n2 = ps at *
  have hpl' := Lib.hid hpl
  have hW1' := Lib.hid hW1
  have B1 := Lib.hid b1
  have hnz : (n2 : Int) ≤ 100 := by omega
  clear hW hS hP hs h2 hr q0 hW1 b1 hpl
  go_enter Tryz.func23, Tryz.ntmps23
  go_wp2_with fail
  rw [← hW1'.out]
  clear hW1'
  refine Q0.out.mono ?_
  rintro e w2 ⟨rfl, b2⟩
  have B2 := Lib.hid (B1.out.trans (b2.mono B1.out.size))
  clear b2 B1 Q0
  go_wp2_with fail
  refine (qf.out w2 B2.out).mono ?_
  rintro e w3 ⟨v3, rfl, o3, b3⟩
  rw [hpl'.out] at o3
  have Qs := Lib.hid (qs.out w2.heap.size v3 w3 o3)
  have B3 := Lib.hid (B2.out.trans (b3.mono B2.out.size))
  have Z3 := Lib.hid (Nat.le_trans B2.out.size (Nat.le_refl _))
  clear o3 b3 qf qs
  go_wp2_with fail
  refine Qs.out.mono ?_
  rintro e w4 ⟨rfl, l', u1, u2, o4, b4⟩
  have hl2 : l'.length = n2 := by rw [u2.length_eq]; exact hpl'.out
  have qc := Lib.hid (ucomp_own w2.heap.size n2 v3 l' hl2.symm (by omega) w4 o4)
  have hcl := Lib.hid (compact_is u1)
  have hcn : Hid ((Lib.compact l').length ≤ n2) := Lib.hid (by have := compact_len l'; omega)
  have hof : Hid (mkL s (Lib.compact l') = ofR ps s) := Lib.hid (ofR_is s hcl.out.1 (fun f => by rw [hcl.out.2]; exact u2.mem_iff))
  have B4 := Lib.hid (B3.out.trans (b4.mono B2.out.size))
  have Z4 := Lib.hid B2.out.size
  clear o4 b4 u1 u2 hl2 Qs B3 Z3 B2 hcl
  go_wp2_with fail
  refine qc.out.mono ?_
  rintro e w6 ⟨ap, cp, rfl, hse, b6⟩
  obtain ⟨N, hN⟩ : ∃ N, N = (Lib.compact l').length := ⟨_, rfl⟩
  rw [← hN]
  have HL : Hid ((Lib.compact l').length = N) := Lib.hid hN.symm
  have hn3 : N ≤ 100 := by have := hcn.out; omega
  have SE5 := Lib.hid hse
  have B5 := Lib.hid (B4.out.trans (b6.mono Z4.out))
  clear hN hse b6 B4 Z4 hcn qc
  generalize Lib.compact l' = l' at *
  have O6 := Lib.hid (show w6.ownsRow w6.heap.size 40 2 (.slice none 0 0) (mkL s (l'.take 0)).length (mkcells (mkL s (l'.take 0))) from own_nil _ _ _ _)
  go_wp2
  go_loopw [8, 28] (fun v x wr => ∃ k : Nat, k ≤ N ∧ x = .int .i64 k ∧ Hid (wr.ownsRow w6.heap.size 40 2 v (mkL s (l'.take k)).length (mkcells (mkL s (l'.take k)))) ∧ Hid (Below w6.heap.size w6 wr)) (fun _ x _ => N - (intOf x).toNat)
  case atStart => exact ⟨0, Nat.zero_le _, rfl, O6, Lib.hid (Below.refl _ _)⟩
  case round =>
    clear O6
    obtain ⟨k, hk, rfl, hO, hB⟩ := hrel
    generalize wr = g0 at *
    by_cases hlt : k < N
    · have hki : (k : Int) < (N : Int) := by omega
      have hkl : k < l'.length := by rw [HL.out]; exact hlt
      obtain ⟨b, off, rfl, hb, x0⟩ : ∃ b off, ap = some ⟨b, off, none⟩ ∧ b < w6.heap.size ∧ g0.cell? ⟨b, off + k, none⟩ = some (.int .u64 (l'.getD k 0)) := by
        rcases SE5.out with e | ⟨b, off, e, hb, hc⟩
        · rw [e] at hkl; simp at hkl
        · exact ⟨b, off, e, hb, (hB.out.cell (p := ⟨b, off + k, none⟩) hb).trans (hc k hkl)⟩
      have hN := Lib.hid (mkL_next s hkl)
      have hc : (mkL s (l'.take k)).length ≤ 1000000 := by simp [mkL]; omega
      generalize l'.getD k 0 = f at *
      generalize mkL s (l'.take k) = L at *
      clear hkl
      go_wp2_with (at_builtin; go_loud (refine wpList_append_mk g0 rfl (.tmp 32) (.tmp 36) rfl w6 _ L.length L hO.out hB.out ⟨f, s⟩ rfl _ rfl rfl hc ?_); intro v2 g2 o2 b2; have O2 := Lib.hid o2; have B2 := Lib.hid b2; clear o2 b2 hO hB)
      go_roundw
      case rel => exact ⟨k + 1, by omega, by go_num, Lib.hid (by have := O2.out; rw [hN.out, List.length_append]; exact this), B2⟩
      case measure => simp [intOf]; omega
    · have hki : ¬ (k : Int) < (N : Int) := by omega
      have ht : l'.take k = l' := List.take_of_length_le (by have := HL.out; omega)
      rw [ht] at hO
      obtain ⟨a3, c3, rfl, hro⟩ := mro_own hO.out
      have R3 := Lib.hid hro
      clear hO hro ht
      go_wp2
      refine bodyPost_ret (results_tmp2 rfl _ _ _) rfl ?_
      rw [hof.out] at R3
      exact ⟨a3, c3, by rw [hof.out]; rfl, R3.out, B5.out.trans (hB.out.mono B5.out.size)⟩
set_option maxRecDepth 100000 in
set_option maxHeartbeats 4000000 in
theorem bof_bad (w : World) (a2 : Option Addr) (n2 c2 : Nat) (s : ByteArray) (hs : noteB s = false) :
    Calls Tryz.prog 23 #[.slice a2 n2 c2, .string s] w fun e w' => e = .returned (.tuple #[.slice none 0 0, .int .i64 210]) ∧ Below w.heap.size w w' := by
  obtain ⟨W1, hW1⟩ : ∃ V, V = w.alloc (.cells #[.int .u64 0, .string s] 40) := ⟨_, rfl⟩
  have b1 : Below w.heap.size w W1 := by rw [hW1]; exact box_below _ _ _
  have hr : RO mkC W1 (some ⟨w.heap.size, 0, none⟩) 1 1 [⟨0, s⟩] := ⟨rfl, Nat.le_refl _, by simp [maxLen], by rw [hW1]; exact seesC_lit w 40 #[.int .u64 0, .string s]⟩
  have q0 := bbase_any W1 _ 1 1 [⟨0, s⟩] hr
  rw [bchk_no (base_bad hs)] at q0
  have Q0 := Lib.hid q0
  have hW1' := Lib.hid hW1
  have B1 := Lib.hid b1
  clear hs hr q0 hW1 b1
  go_enter Tryz.func23, Tryz.ntmps23
  go_wp2_with fail
  rw [← hW1'.out]
  clear hW1'
  refine Q0.out.mono ?_
  rintro e w2 ⟨rfl, b2⟩
  have B2 := Lib.hid (B1.out.trans (b2.mono B1.out.size))
  clear b2 B1 Q0
  go_wp2
  exact bodyPost_ret (results_tmp2 rfl _ _ _) rfl ⟨rfl, B2.out⟩
end Go.Proofs.YtpchncpcckfghaaGreat
namespace Go.Proofs.YtpchncpcckfghaaGreat
open Go.RowKit
set_option linter.unusedVariables false
set_option linter.unusedSimpArgs false
theorem size_mk (W : World) : (sizeOf (Tryz.prog.elem 22)).run Tryz.prog W = .ok 2 W := by kernel_rfl
theorem under_mk : Tryz.prog.underlying 22 = some (.slice (Tryz.prog.elem 22)) := by kernel_rfl
theorem mkcells_drop (L : List MkD) (q : Nat) (h : q ≤ L.length) : (mkcells L).drop (q * 2) = mkcells (L.drop q) := by
  conv => lhs; rw [← List.take_append_drop q L, mkcells_app]
  have e : (mkcells (L.take q)).length = q * 2 := by rw [mkcells_len, List.length_take]; congr 1; omega
  rw [List.drop_left' e]
theorem mkcells_take (L : List MkD) (q : Nat) (h : q ≤ L.length) : (mkcells L).take (q * 2) = mkcells (L.take q) := by
  conv => lhs; rw [← List.take_append_drop q L, mkcells_app]
  have e : (mkcells (L.take q)).length = q * 2 := by rw [mkcells_len, List.length_take]; congr 1; omega
  rw [List.take_left' e]
theorem put_at (m : MkD) : ∀ (L : List MkD) (k : Nat), k ≤ L.length → (∀ t, t < k → (L.getD t mk0).f < m.f) → (k = L.length ∨ m.f < (L.getD k mk0).f) → putL L m = L.take k ++ m :: L.drop k
  | [], k, hk, _, _ => by
    simp at hk
    subst hk
    rfl
  | x :: L, 0, _, _, h => by
    have hx : m.f < x.f := by
      rcases h with h | h
      · simp at h
      · simpa using h
    simp [putL, show ¬ x.f < m.f by omega, show ¬ x.f = m.f by omega]
  | x :: L, k + 1, hk, h1, h => by
    have hx : x.f < m.f := by simpa using h1 0 (by omega)
    have := put_at m L k (by simpa using hk) (fun t ht => by simpa using h1 (t + 1) (by omega)) (by simpa using h)
    simp [putL, hx, this]
theorem put_same (m : MkD) : ∀ (L : List MkD) (k : Nat), k < L.length → (∀ t, t < k → (L.getD t mk0).f < m.f) → (L.getD k mk0).f = m.f → putL L m = L.set k ⟨(L.getD k mk0).f, maxN (L.getD k mk0).note m.note⟩
  | [], k, hk, _, _ => by simp at hk
  | x :: L, 0, _, _, h => by
    have hx : x.f = m.f := by simpa using h
    simp [putL, hx]
  | x :: L, k + 1, hk, h1, h => by
    have hx : x.f < m.f := by simpa using h1 0 (by omega)
    have := put_same m L k (by simpa using hk) (fun t ht => by simpa using h1 (t + 1) (by omega)) (by simpa using h)
    simp [putL, hx, this]
theorem set_self (L : List MkD) {k : Nat} (hk : k < L.length) (y : MkD) (h : L.getD k mk0 = y) : L.set k y = L := by
  subst h
  apply List.ext_getElem
  · simp
  · intro i h1 h2
    rw [List.getElem_set]
    split
    · rename_i e; subst e; simp [List.getD, hk]
    · rfl
theorem own_mk_at {w : World} {base g n c : Nat} {l : List MkD} (h : w.ownsRow base 40 2 (.slice (some ⟨g, 0, none⟩) n c) n (mkcells l)) {i : Nat} (hi : i < n) :
    w.cell? ⟨g, i * 2, none⟩ = some (.int .u64 (l.getD i mk0).f) ∧ w.cell? ⟨g, i * 2 + 1, none⟩ = some (.string (l.getD i mk0).note) ∧ w.frozen? ⟨g, i * 2 + 1, none⟩ = false := by
  have hl := h.1
  rw [mkcells_len] at hl
  have key : ∀ j, j < 2 → w.cell? ⟨g, i * 2 + j, none⟩ = (mkC (l.getD i mk0))[j]? := by
    intro j hj
    have e : (mkcells l)[i * 2 + j]? = (mkC (l.getD i mk0))[j]? := by
      unfold mkcells
      rw [flat_at mkC_len l i j hj]
      simp [List.getD, show i < l.length by omega]
    have h2 : j < (mkC (l.getD i mk0)).length := by rw [mkC_len]; exact hj
    rw [List.getElem?_eq_getElem h2] at e ⊢
    have q := h.cells (g := g) rfl _ _ e
    rw [add_at, Nat.zero_add] at q
    exact q
  refine ⟨key 0 (by decide), key 1 (by decide), ?_⟩
  rcases h.2 with ⟨he, _⟩ | ⟨g', cap, cur, he, hbg, hgg, -⟩
  · injection he with he; cases he
  · injection he with e1 e2 e3
    injection e1 with e1
    injection e1 with e1
    subst e1
    exact Holds.free hgg _
theorem own_mk_set {w : World} {base g n c : Nat} {l : List MkD} (h : w.ownsRow base 40 2 (.slice (some ⟨g, 0, none⟩) n c) n (mkcells l)) {i : Nat} (hi : i < n) (s : ByteArray) :
    (w.setCell ⟨g, i * 2 + 1, none⟩ (.string s)).ownsRow base 40 2 (.slice (some ⟨g, 0, none⟩) n c) n (mkcells (l.set i ⟨(l.getD i mk0).f, s⟩)) := by
  have hl := h.1
  rw [mkcells_len] at hl
  rcases h.2 with ⟨he, _⟩ | ⟨g', cap, cur, he, hbg, hgg, hnc, hcm, hcs, htake⟩
  · injection he with he; cases he
  · injection he with h1 h2 h3
    injection h1 with h1
    injection h1 with h1
    subst h1 h3
    refine ⟨by rw [mkcells_len, List.length_set]; exact hl, .inr ⟨g, c, _, rfl, hbg, Holds.set (t := 40) hgg (i * 2 + 1) (.string s), hnc, hcm, by simpa using hcs, ?_⟩⟩
    have e : mkcells (l.set i ⟨(l.getD i mk0).f, s⟩) = (mkcells l).set (i * 2 + 1) (.string s) := by
      have hil : i < l.length := by omega
      apply List.ext_getElem?
      intro k
      rw [List.getElem?_set]
      have hd : k = k / 2 * 2 + k % 2 := by omega
      have hm : k % 2 < 2 := Nat.mod_lt _ (by decide)
      unfold mkcells
      generalize k / 2 = q at hd
      generalize k % 2 = r at hd hm
      subst hd
      rw [flat_at mkC_len _ q r hm, flat_at mkC_len _ q r hm, List.getElem?_set]
      by_cases hq : i = q
      · subst hq
        simp only [if_pos rfl]
        rw [if_pos hil]
        by_cases hr : r = 1
        · subst hr
          have hln : i * 2 + 1 < (l.flatMap mkC).length := by rw [flat_len mkC_len]; omega
          simp only [hln, if_true]
          rfl
        · have hr0 : r = 0 := by omega
          subst hr0
          have hne : ¬ (i * 2 + 1 = i * 2 + 0) := by omega
          simp [mkC, List.getD, hil]
      · rw [if_neg hq, if_neg (by omega)]
    rw [e, ← htake]
    simp only [Array.toList_setIfInBounds]
    rw [List.take_set]
def PutE (w0 : World) (l : List MkD) (e : Ending) (w' : World) : Prop := ∃ v n, e = .returned v ∧ n = l.length ∧ w'.ownsRow w0.heap.size 40 2 v n (mkcells l) ∧ Below w0.heap.size w0 w'
def DN (V W : World) : Prop := ∃ q, W = V.drewN q
theorem DN.drewN {V W : World} (h : DN V W) (n : Nat) : DN V (W.drewN n) := by
  obtain ⟨q, rfl⟩ := h
  exact ⟨q + n, by simp [World.drewN, Nat.add_assoc]⟩
theorem DN.below {V W : World} (h : DN V W) (B : Nat) : Below B V W := by
  obtain ⟨q, rfl⟩ := h
  exact Below.drewN (Below.refl _ _) q
theorem DN.own {V W : World} (h : DN V W) {base : Nat} {e : TypeId} {size n : Nat} {v : Value} {xs : List Value} (ho : V.ownsRow base e size v n xs) : W.ownsRow base e size v n xs := own_below ho (h.below _)
set_option maxRecDepth 100000 in
set_option maxHeartbeats 8000000 in
theorem rput_any (w0 w : World) (v : Value) (n : Nat) (L : List MkD) (mf : Int) (ms : ByteArray) (hn : n ≤ 90000) (ho : w.ownsRow w0.heap.size 40 2 v n (mkcells L)) (hb : Below w0.heap.size w0 w) :
    Calls Tryz.prog 44 #[v, .agg #[.int .u64 mf, .string ms]] w (PutE w0 (putL L ⟨mf, ms⟩)) := by
  obtain ⟨i0, z0, hi, hz0, hz1, hz2, hz6⟩ := infoMkZ
  have hol : L.length = n := by
    have := ho.1
    rw [mkcells_len] at this
    omega
  have hst := Lib.hid (fun k h1 h2 h3 => put_at ⟨mf, ms⟩ L k h1 h2 h3)
  have hsm := Lib.hid (fun k h1 h2 h3 => put_same ⟨mf, ms⟩ L k h1 h2 h3)
  have hfin5 : Hid (∀ k, mkcells (L.take k ++ ⟨mf, ms⟩ :: L.drop k) = mkcells (L.take k) ++ mkC ⟨mf, ms⟩ ++ mkcells (L.drop k)) := Lib.hid (fun k => by simp [mkcells])
  obtain ⟨ao, co, rfl, hlc, hcm, hse⟩ := seesC_own ho
  obtain ⟨Vb, hV⟩ : ∃ V, V = w.alloc (.cells #[.int .u64 mf, .string ms] 40) := ⟨_, rfl⟩
  have bV : Below w.heap.size w Vb := by rw [hV]; exact box_below _ _ _
  obtain ⟨gb, hgb⟩ : ∃ gb, gb = w.heap.size := ⟨_, rfl⟩
  have HB : Hid (Holds Vb gb 40 #[.int .u64 mf, .string ms]) := Lib.hid (by rw [hV, hgb]; exact Holds.new _ _ _)
  have hb0 := Lib.hid (hb.trans (bV.mono hb.size))
  have hown := Lib.hid (own_below ho bV)
  have hRO : Hid (RO mkC Vb ao n co L) := Lib.hid (RO.below ⟨hol.symm, hlc, hcm, hse⟩ bV)
  have hse' : Hid (SeesC Vb.heap.size Vb ao (mkcells L)) := Lib.hid ((hse.below bV).mono bV.size)
  have hol' := Lib.hid hol
  have hgl : Hid (∀ g, ao = some ⟨g, 0, none⟩ → g < gb) := Lib.hid (fun g h => by rw [hgb]; exact (ho.lt g (by rw [h]; rfl)).2)
  have hV' := Lib.hid hV
  have hgb' := Lib.hid hgb
  have hc0 := HB.out.cell 0
  have hc1 := HB.out.cell 1
  clear hc0 hc1
  obtain ⟨O2, hO2⟩ : ∃ O2, putL L ⟨mf, ms⟩ = O2 := ⟨_, rfl⟩
  rw [hO2] at hst hsm
  rw [hO2]
  clear ho hb hse hV hgb bV hol hO2
  go_enter Tryz.func44, Tryz.ntmps44
  go_wp2_with fail
  rw [← hV'.out, ← hgb'.out]
  clear hV' hgb'
  go_wp2
  go_loopw [5] (fun x wk => ∃ k : Nat, k ≤ n ∧ x = .int .i64 k ∧ Hid (∀ j, j < k → (L.getD j mk0).f < mf) ∧ Hid (DN Vb wk)) (fun x _ => n - (intOf x).toNat)
  case atStart => exact ⟨0, Nat.zero_le _, rfl, Lib.hid (fun j h => by omega), Lib.hid ⟨0, rfl⟩⟩
  case round =>
    obtain ⟨k, hk, rfl, hal, hq⟩ := hrel
    generalize wr = W0 at *
    by_cases hlt : k < n
    · have hki : (k : Int) < (n : Int) := by omega
      obtain ⟨g, rfl⟩ : ∃ g, ao = some ⟨g, 0, none⟩ := by
        rcases hown.out.2 with ⟨he, _⟩ | ⟨g', cap, cur, he, -⟩
        · injection he with e1 e2 e3; omega
        · injection he with e1 e2 e3; exact ⟨g', e1⟩
      obtain ⟨x0, x1, fx⟩ := own_mk_at (hq.out.own hown.out) hlt
      have hc0 := (HB.out.below (hq.out.below _) HB.out.lt).cell 0
      have hc1 := (HB.out.below (hq.out.below _) HB.out.lt).cell 1
      simp at hc0 hc1
      have hset := Lib.hid (fun s W (hW : DN Vb W) => own_mk_set (hW.own hown.out) hlt s)
      have hgg : w0.heap.size ≤ g := (hown.out.lt g rfl).1
      have hgne : gb ≠ g := by
        have h1 := hgl.out g rfl
        omega
      have hsm' := Lib.hid (fun h3 => hsm.out k (by rw [hol'.out]; exact hlt) hal.out h3)
      have hst' := Lib.hid (fun h3 => hst.out k (by rw [hol'.out]; omega) hal.out (.inr h3))
      have hself := Lib.hid (fun y h => set_self L (k := k) (by rw [hol'.out]; exact hlt) y h)
      have hal2 : Hid ((L.getD k mk0).f < mf → ∀ t, t < k + 1 → (L.getD t mk0).f < mf) := Lib.hid (fun h t ht => by
        by_cases e : t = k
        · rw [e]; exact h
        · exact hal.out t (by omega))
      have hLk : Hid (L.getD k mk0 = ⟨(L.getD k mk0).f, (L.getD k mk0).note⟩) := Lib.hid rfl
      generalize (L.getD k mk0).f = f at *
      generalize (L.getD k mk0).note = s at *
      clear hal hst hsm
      by_cases h1 : f < mf
      · have hA := Lib.hid (hal2.out h1)
        clear hal2 hsm' hst' hset hself hLk
        go_wp2
        go_quiet (fail)
        go_wp2
        go_roundw
        case rel => exact ⟨k + 1, by omega, by go_num, hA, Lib.hid (hq.out.drewN _)⟩
        case measure => simp [intOf]; omega
      · clear hal2
        by_cases h2 : f = mf
        · have h2b : (f == mf) = true := by simpa using h2
          have hO := Lib.hid (hsm'.out h2)
          clear hsm' hst'
          cases hnn : lt8 (byt s) (byt ms) with
          | true =>
            have hM : maxN s ms = ms := by unfold maxN; rw [if_pos hnn]
            rw [hM] at hO
            obtain ⟨hb1, hb2⟩ := gtr_yes hnn
            go_wp2
            go_quiet (fail)
            go_wp2
            go_quiet (fail)
            go_wp2
            go_quiet (fail)
            go_wp2
            exact bodyPost_ret (results_tmp rfl _ _ _) rfl ⟨_, n, rfl, by rw [hO.out, List.length_set]; exact hol'.out.symm, by rw [hO.out]; exact hset.out ms _ (hq.out.drewN _), bl_set (hb0.out.trans (((hq.out.drewN _).below _).mono hb0.out.size)) (p := ⟨g, k * 2 + 1, none⟩) hgg _⟩
          | false =>
            have hM : maxN s ms = s := by unfold maxN; rw [if_neg (by rw [hnn]; decide)]
            rw [hM, hself.out _ hLk.out] at hO
            rcases gtr_no hnn with hb1 | rfl
            · go_wp2
              go_quiet (fail)
              go_wp2
              go_quiet (fail)
              go_wp2
              go_quiet (fail)
              go_wp2
              exact bodyPost_ret (results_tmp rfl _ _ _) rfl ⟨_, n, rfl, by rw [hO.out]; exact hol'.out.symm, by rw [hO.out]; exact (((hq.out.drewN _).drewN _).drewN _).own hown.out, hb0.out.trans (((((hq.out.drewN _).drewN _).drewN _).below _).mono hb0.out.size)⟩
            · have hb2 : (ms.toList == ms.toList) = true := by simp
              go_wp2
              go_quiet (fail)
              go_wp2
              go_quiet (fail)
              go_wp2
              go_quiet (fail)
              go_wp2
              exact bodyPost_ret (results_tmp rfl _ _ _) rfl ⟨_, n, rfl, by rw [hO.out]; exact hol'.out.symm, by rw [hO.out]; exact (((hq.out.drewN _).drewN _).drewN _).own hown.out, hb0.out.trans (((((hq.out.drewN _).drewN _).drewN _).below _).mono hb0.out.size)⟩
        · have h2b : (f == mf) = false := by simpa using h2
          have hO3 := Lib.hid (hst'.out (by omega))
          clear hst' hsm' hset hself hLk
          go_wp2
          go_quiet (fail)
          generalize nq = m1 at *
          go_wp2
          go_quiet (fail)
          generalize nq = m2 at *
          have hBk2 := ((hq.out.drewN m1).drewN m2).below Vb.heap.size
          generalize (W0.drewN m1).drewN m2 = V at hBk2 ⊢
          have hVz : V.heap.size = V.heap.size := rfl
          have hol := hol'.out
          obtain ⟨ad, hsl1, hsd, hnd⟩ := hse'.out.cut 2 k n co (by rw [mkcells_len, hol]; omega) (by omega) hlc (by omega)
          obtain ⟨ae, hsl2, hsf, hnf⟩ := hse'.out.cut 2 0 k k (by rw [mkcells_len, hol]; omega) (by omega) (Nat.le_refl _) (by omega)
          have g1' := ccut_l under_mk size_mk _ n co k hsl1 (by omega)
          have g2' := ccut_hm under_mk size_mk _ n co k k hsl2 (Nat.le_refl _) (by omega)
          have nl : (mkcells L).length = n * 2 := by rw [mkcells_len, hol]
          simp only [List.take_of_length_le (Nat.le_of_eq nl), mkcells_drop L k (by omega), mkcells_take L k (by omega), List.drop_zero, Nat.sub_zero, Nat.zero_mul] at hsd hsf g1' g2'
          have hne : ae = none → k = 0 ∧ k = 0 := by
            intro h
            by_cases h0 : k = 0
            · exact ⟨h0, h0⟩
            · rcases hsf with h1 | ⟨g, off, h1, _⟩
              · have h3 : (mkcells (L.take k)).length = 0 := by rw [h1]; rfl
                rw [mkcells_len, List.length_take] at h3; omega
              · rw [h] at h1; cases h1
          have hne' := Lib.hid hne
          have hk5 : k ≤ 100000 := by omega
          have hko5 : n - k ≤ 100000 := by omega
          have hBV : Below w0.heap.size w0 V := hb0.out.trans (hBk2.mono hb0.out.size)
          have hsfV : SeesC V.heap.size V ae (mkcells (L.take k)) := (hsf.below hBk2).mono hBk2.size
          obtain ⟨W2, hW2⟩ : ∃ W2, W2 = V.alloc (.cells #[] 40) := ⟨_, rfl⟩
          have hBx : Below V.heap.size V W2 := by rw [hW2]; exact (Below.refl _ _).alloc (Nat.le_refl _) _
          have hBx' := Lib.hid hBx
          have hsd2 : Hid (SeesC W2.heap.size W2 ad (mkcells (L.drop k))) := Lib.hid (by
            have : SeesC V.heap.size V ad (mkcells (L.drop k)) := (hsd.below hBk2).mono hBk2.size
            exact (this.below hBx).mono hBx.size)
          have hro : Hid (W2.ownsRow V.heap.size 40 2 (.slice (some ⟨V.heap.size, 0, none⟩) 0 0) 0 []) := Lib.hid (by rw [hW2, ← hVz]; exact own_cells V 40 2 0 #[] (by simp) (by simp [maxLen]))
          have hdl : Hid ((mkcells (L.drop k)).length = (n - k) * 2) := Lib.hid (by rw [mkcells_len, List.length_drop, hol])
          have htl : Hid ((mkcells (L.take k)).length = k * 2) := Lib.hid (by rw [mkcells_len, List.length_take, hol]; congr 1; omega)
          have hW2' := Lib.hid hW2
          have hBV' := Lib.hid hBV
          have hsfV' := Lib.hid hsfV
          have hHM := Lib.hid (HB.out.below hBk2 HB.out.lt)
          have hone : Hid (∀ q : List MkD, ∀ u ∈ mkcells q, u.oneCell' = true) := Lib.hid (fun q u hu => mkcells_one hu)
          have hgV : gb < V.heap.size := hHM.out.lt
          clear hsl1 hsl2 hsd hsf hnd hnf hse' hown hBx hW2 hBV hsfV hne hVz hol nl hBk2 hRO HB
          go_wp2_with (at_builtin; go_loud (rw [← hW2'.out]; refine wpList_append_cellsB _ rfl (.tmp 52) (.tmp 55) 22 rfl V 40 i0 z0 2 24 Tryz.underlying22 hi hz0 hz1 hz2 hz6 (by decide) _ 0 [] hro.out hBx'.out W2.heap.size ad (n - k) (co - k) (mkcells (L.drop k)) hdl.out hsd2.out (hone.out _) rfl rfl (by simp [maxLen]; omega) (by omega) ?_); intro v3 w3 own3 b3; simp only [List.nil_append, Nat.zero_add] at own3)
          obtain ⟨a3, c3, rfl, -, -, s3⟩ := seesC_own own3
          have hsz : SeesC w3.drew.heap.size w3.drew a3 (mkcells (L.drop k)) := s3
          have hall : Below V.heap.size V w3.drew := b3.drew
          have h0 : ∀ W, Below V.heap.size V W → W.cell? ⟨gb, 0, none⟩ = some (.int .u64 mf) := fun W hW => (hW.cell (p := ⟨gb, 0, none⟩) hgV).trans (hHM.out.cell 0)
          have h1 : ∀ W, Below V.heap.size V W → W.cell? ⟨gb, 1, none⟩ = some (.string ms) := fun W hW => (hW.cell (p := ⟨gb, 1, none⟩) hgV).trans (hHM.out.cell 1)
          clear own3 s3 hro hsd2
          refine wp_drawn_on (fun W => Below V.heap.size V W) (by kernel_rfl) (b3.drew) (fun hHeld => ?_)
          generalize w3.drew = W4 at hsz hall hHeld ⊢
          refine wT 0 (v := ?v1) rfl (by kernel_rfl) (fun _ _ _ h => h) ?h1 (by assumption) ?r1
          case h1 => (intro w hSw; (try dsimp only at hSw); go_simp; try with_reducible rfl)
          refine wT 1 (v := ?v2) rfl (by kernel_rfl) (fun _ _ _ h => h) ?h2 (by assumption) ?r2
          case h2 => (intro w hSw; (try dsimp only at hSw); go_simp; try with_reducible rfl)
          refine wT 2 (v := ?v3) rfl (by kernel_rfl) (fun _ _ _ h => h) ?h3 (by assumption) ?r3
          case h3 => (intro w hSw; (try dsimp only at hSw); go_simp; try with_reducible rfl)
          refine wT 3 (v := ?v4) rfl (by kernel_rfl) (fun _ _ _ h => h) ?h4 (by assumption) ?r4
          case h4 => (intro w hSw; (try dsimp only at hSw); go_simp; try with_reducible rfl)
          refine wT 4 (v := ?v5) rfl (by kernel_rfl) (fun _ _ _ h => h) ?h5 (by assumption) ?r5
          case h5 => (intro w hSw; (try dsimp only at hSw); go_simp; try with_reducible rfl)
          refine wT 7 (v := ?v6) rfl (by kernel_rfl) (fun _ _ _ h => h) ?h6 (by assumption) ?r6
          case h6 => (intro w hSw; (try dsimp only at hSw); go_simp; try with_reducible rfl)
          try simp only [Act.put, List.setIfInBounds_toArray, List.set_cons_zero, List.set_cons_succ]
          refine wpAnyH_ready (rs := [5]) (by kernel_rfl) (by simp) ?_
          refine AllReadyH.cons (o := ⟨_, _, _, _, _, _⟩) rfl (fun K hK => ?_) AllReadyH.nil
          go_simp
          have hx8 := hHeld.alloc hHeld.size (.cells #[.int .u64 mf, .string ms] 40)
          have s8 := seesC_lit (W4) 40 #[.int .u64 mf, .string ms]
          have s38 := (hsz.below (box_below (W4) #[.int .u64 mf, .string ms] 40)).mono (box_below (W4) #[.int .u64 mf, .string ms] 40).size
          go_simp
          generalize hw8 : (W4).alloc (.cells #[.int .u64 mf, .string ms] 40) = w8 at *
          generalize (W4).heap.size = g8 at *
          refine hK.out _ _ (hx8) (fun hHeld => ?_)
          clear hK K
          try simp only [Act.put, List.setIfInBounds_toArray, List.set_cons_zero, List.set_cons_succ]
          refine wpAnyH_ready (rs := [6]) (by kernel_rfl) (by simp) ?_
          refine AllReadyH.cons (o := ⟨_, _, _, _, _, _⟩) rfl (fun K hK => ?_) AllReadyH.nil
          refine wp_append_full _ (.tmp 60) (.tmp 62) 22 rfl 40 i0 z0 2 24 Tryz.underlying22 hi hz0 hz1 hz2 hz6 (by decide) ae k k (mkcells (L.take k)) rfl hne'.out htl.out w8.heap.size ((hsfV'.out.below hHeld).mono hHeld.size) ⟨g8, 0, none⟩ 1 1 [.int .u64 mf, .string ms] rfl (by simp) s8 (by intro u hu; simp at hu; rcases hu with rfl | rfl <;> rfl) (by omega) (by simp [maxLen]; omega) (by omega) ?_
          intro v9 w9 own9 grow9
          have bg9 : Below w8.heap.size w8 w9 := (Below.refl _ _).grown grow9 (Nat.le_refl _) (by intro k hk; cases hk)
          have hx9 := hHeld.trans (bg9.mono hHeld.size)
          have s39 := (s38.below bg9).mono bg9.size
          have own9' := own_from own9 (B := w0.heap.size) (fun k hk => by have q1 := (own9.lt k hk).1; have q2 := hHeld.size; have q3 := hBV'.out.size; omega)
          refine hK.out _ _ (hx9) (fun hHeld => ?_)
          clear hK K
          try simp only [Act.put, List.setIfInBounds_toArray, List.set_cons_zero, List.set_cons_succ]
          refine wpAnyH_ready (rs := [8]) (by kernel_rfl) (by simp) ?_
          refine AllReadyH.cons (o := ⟨_, _, _, _, _, _⟩) rfl (fun K hK => ?_) AllReadyH.nil
          refine wp_append_cellsB _ (.tmp 63) (.tmp 64) 22 rfl w0.heap.size 40 i0 z0 2 24 Tryz.underlying22 hi hz0 hz1 hz2 hz6 (by decide) v9 (k + 1) _ own9' (by have q2 := hHeld.size; have q3 := hBV'.out.size; omega) _ a3 (n - k) c3 (mkcells (L.drop k)) hdl.out s39 (hone.out _) rfl rfl (by simp [maxLen]; omega) (by omega) ?_
          intro v11 w11 own11 grow11
          have hx11 : Below V.heap.size V w11 := hHeld.grown grow11 hHeld.size (fun k hk => by have q1 := (own9.lt k hk).1; have q2 := hx8.size; omega)
          refine hK.out _ _ (hx11) (fun hHeld => ?_)
          clear hK K
          refine wT 9 (v := ?v7) rfl (by kernel_rfl) (fun _ _ _ h => h) ?h7 (by assumption) ?r7
          case h7 => (intro w hSw; (try dsimp only at hSw); go_simp; try with_reducible rfl)
          try simp only [Act.put, List.setIfInBounds_toArray, List.set_cons_zero, List.set_cons_succ]
          refine wpAnyH_done (by kernel_rfl) ?_ _
          have hfin : Hid (w11.ownsRow w0.heap.size 40 2 v11 (n + 1) (mkcells (L.take k ++ ⟨mf, ms⟩ :: L.drop k)) ∧ Below w0.heap.size w0 w11) := Lib.hid ⟨by rw [hfin5.out k, show n + 1 = k + 1 + (n - k) by omega]; exact own11, hBV'.out.trans (hx11.mono hBV'.out.size)⟩
          clear own11 grow11 hx11 own9' own9 grow9 bg9 s39 s38 s8 hx8 hx9 hHeld h0 h1
          go_wp2
          go_ret
          exact ⟨v11, n + 1, rfl, by rw [hO3.out]; simp [List.length_take]; have := hol'.out; omega, by rw [hO3.out]; exact hfin.out.1, hfin.out.2⟩
    · have hki : ¬ (k : Int) < (n : Int) := by omega
      have hO3 := Lib.hid (hst.out k (by rw [hol'.out]; omega) hal.out (.inl (by rw [hol'.out]; omega)))
      clear hst hsm
      go_wp2
      go_quiet (fail)
      generalize nq = m1 at *
      go_wp2
      go_quiet (fail)
      generalize nq = m2 at *
      have hBk2 := ((hq.out.drewN m1).drewN m2).below Vb.heap.size
      generalize (W0.drewN m1).drewN m2 = V at hBk2 ⊢
      have hVz : V.heap.size = V.heap.size := rfl
      have hol := hol'.out
      obtain ⟨ad, hsl1, hsd, hnd⟩ := hse'.out.cut 2 k n co (by rw [mkcells_len, hol]; omega) (by omega) hlc (by omega)
      obtain ⟨ae, hsl2, hsf, hnf⟩ := hse'.out.cut 2 0 k k (by rw [mkcells_len, hol]; omega) (by omega) (Nat.le_refl _) (by omega)
      have g1' := ccut_l under_mk size_mk _ n co k hsl1 (by omega)
      have g2' := ccut_hm under_mk size_mk _ n co k k hsl2 (Nat.le_refl _) (by omega)
      have nl : (mkcells L).length = n * 2 := by rw [mkcells_len, hol]
      simp only [List.take_of_length_le (Nat.le_of_eq nl), mkcells_drop L k (by omega), mkcells_take L k (by omega), List.drop_zero, Nat.sub_zero, Nat.zero_mul] at hsd hsf g1' g2'
      have hne : ae = none → k = 0 ∧ k = 0 := by
        intro h
        by_cases h0 : k = 0
        · exact ⟨h0, h0⟩
        · rcases hsf with h1 | ⟨g, off, h1, _⟩
          · have h3 : (mkcells (L.take k)).length = 0 := by rw [h1]; rfl
            rw [mkcells_len, List.length_take] at h3; omega
          · rw [h] at h1; cases h1
      have hne' := Lib.hid hne
      have hk5 : k ≤ 100000 := by omega
      have hko5 : n - k ≤ 100000 := by omega
      have hBV : Below w0.heap.size w0 V := hb0.out.trans (hBk2.mono hb0.out.size)
      have hsfV : SeesC V.heap.size V ae (mkcells (L.take k)) := (hsf.below hBk2).mono hBk2.size
      obtain ⟨W2, hW2⟩ : ∃ W2, W2 = V.alloc (.cells #[] 40) := ⟨_, rfl⟩
      have hBx : Below V.heap.size V W2 := by rw [hW2]; exact (Below.refl _ _).alloc (Nat.le_refl _) _
      have hBx' := Lib.hid hBx
      have hsd2 : Hid (SeesC W2.heap.size W2 ad (mkcells (L.drop k))) := Lib.hid (by
        have : SeesC V.heap.size V ad (mkcells (L.drop k)) := (hsd.below hBk2).mono hBk2.size
        exact (this.below hBx).mono hBx.size)
      have hro : Hid (W2.ownsRow V.heap.size 40 2 (.slice (some ⟨V.heap.size, 0, none⟩) 0 0) 0 []) := Lib.hid (by rw [hW2, ← hVz]; exact own_cells V 40 2 0 #[] (by simp) (by simp [maxLen]))
      have hdl : Hid ((mkcells (L.drop k)).length = (n - k) * 2) := Lib.hid (by rw [mkcells_len, List.length_drop, hol])
      have htl : Hid ((mkcells (L.take k)).length = k * 2) := Lib.hid (by rw [mkcells_len, List.length_take, hol]; congr 1; omega)
      have hW2' := Lib.hid hW2
      have hBV' := Lib.hid hBV
      have hsfV' := Lib.hid hsfV
      have hHM := Lib.hid (HB.out.below hBk2 HB.out.lt)
      have hone : Hid (∀ q : List MkD, ∀ u ∈ mkcells q, u.oneCell' = true) := Lib.hid (fun q u hu => mkcells_one hu)
      have hgV : gb < V.heap.size := hHM.out.lt
      clear hsl1 hsl2 hsd hsf hnd hnf hse' hown hBx hW2 hBV hsfV hne hVz hol nl hBk2 hRO HB
      go_wp2_with (at_builtin; go_loud (rw [← hW2'.out]; refine wpList_append_cellsB _ rfl (.tmp 52) (.tmp 55) 22 rfl V 40 i0 z0 2 24 Tryz.underlying22 hi hz0 hz1 hz2 hz6 (by decide) _ 0 [] hro.out hBx'.out W2.heap.size ad (n - k) (co - k) (mkcells (L.drop k)) hdl.out hsd2.out (hone.out _) rfl rfl (by simp [maxLen]; omega) (by omega) ?_); intro v3 w3 own3 b3; simp only [List.nil_append, Nat.zero_add] at own3)
      obtain ⟨a3, c3, rfl, -, -, s3⟩ := seesC_own own3
      have hsz : SeesC w3.drew.heap.size w3.drew a3 (mkcells (L.drop k)) := s3
      have hall : Below V.heap.size V w3.drew := b3.drew
      have h0 : ∀ W, Below V.heap.size V W → W.cell? ⟨gb, 0, none⟩ = some (.int .u64 mf) := fun W hW => (hW.cell (p := ⟨gb, 0, none⟩) hgV).trans (hHM.out.cell 0)
      have h1 : ∀ W, Below V.heap.size V W → W.cell? ⟨gb, 1, none⟩ = some (.string ms) := fun W hW => (hW.cell (p := ⟨gb, 1, none⟩) hgV).trans (hHM.out.cell 1)
      clear own3 s3 hro hsd2
      refine wp_drawn_on (fun W => Below V.heap.size V W) (by kernel_rfl) (b3.drew) (fun hHeld => ?_)
      generalize w3.drew = W4 at hsz hall hHeld ⊢
      refine wT 0 (v := ?v8) rfl (by kernel_rfl) (fun _ _ _ h => h) ?h8 (by assumption) ?r8
      case h8 => (intro w hSw; (try dsimp only at hSw); go_simp; try with_reducible rfl)
      refine wT 1 (v := ?v9) rfl (by kernel_rfl) (fun _ _ _ h => h) ?h9 (by assumption) ?r9
      case h9 => (intro w hSw; (try dsimp only at hSw); go_simp; try with_reducible rfl)
      refine wT 2 (v := ?v10) rfl (by kernel_rfl) (fun _ _ _ h => h) ?h10 (by assumption) ?r10
      case h10 => (intro w hSw; (try dsimp only at hSw); go_simp; try with_reducible rfl)
      refine wT 3 (v := ?v11) rfl (by kernel_rfl) (fun _ _ _ h => h) ?h11 (by assumption) ?r11
      case h11 => (intro w hSw; (try dsimp only at hSw); go_simp; try with_reducible rfl)
      refine wT 4 (v := ?v12) rfl (by kernel_rfl) (fun _ _ _ h => h) ?h12 (by assumption) ?r12
      case h12 => (intro w hSw; (try dsimp only at hSw); go_simp; try with_reducible rfl)
      refine wT 7 (v := ?v13) rfl (by kernel_rfl) (fun _ _ _ h => h) ?h13 (by assumption) ?r13
      case h13 => (intro w hSw; (try dsimp only at hSw); go_simp; try with_reducible rfl)
      try simp only [Act.put, List.setIfInBounds_toArray, List.set_cons_zero, List.set_cons_succ]
      refine wpAnyH_ready (rs := [5]) (by kernel_rfl) (by simp) ?_
      refine AllReadyH.cons (o := ⟨_, _, _, _, _, _⟩) rfl (fun K hK => ?_) AllReadyH.nil
      go_simp
      have hx8 := hHeld.alloc hHeld.size (.cells #[.int .u64 mf, .string ms] 40)
      have s8 := seesC_lit (W4) 40 #[.int .u64 mf, .string ms]
      have s38 := (hsz.below (box_below (W4) #[.int .u64 mf, .string ms] 40)).mono (box_below (W4) #[.int .u64 mf, .string ms] 40).size
      go_simp
      generalize hw8 : (W4).alloc (.cells #[.int .u64 mf, .string ms] 40) = w8 at *
      generalize (W4).heap.size = g8 at *
      refine hK.out _ _ (hx8) (fun hHeld => ?_)
      clear hK K
      try simp only [Act.put, List.setIfInBounds_toArray, List.set_cons_zero, List.set_cons_succ]
      refine wpAnyH_ready (rs := [6]) (by kernel_rfl) (by simp) ?_
      refine AllReadyH.cons (o := ⟨_, _, _, _, _, _⟩) rfl (fun K hK => ?_) AllReadyH.nil
      refine wp_append_full _ (.tmp 60) (.tmp 62) 22 rfl 40 i0 z0 2 24 Tryz.underlying22 hi hz0 hz1 hz2 hz6 (by decide) ae k k (mkcells (L.take k)) rfl hne'.out htl.out w8.heap.size ((hsfV'.out.below hHeld).mono hHeld.size) ⟨g8, 0, none⟩ 1 1 [.int .u64 mf, .string ms] rfl (by simp) s8 (by intro u hu; simp at hu; rcases hu with rfl | rfl <;> rfl) (by omega) (by simp [maxLen]; omega) (by omega) ?_
      intro v9 w9 own9 grow9
      have bg9 : Below w8.heap.size w8 w9 := (Below.refl _ _).grown grow9 (Nat.le_refl _) (by intro k hk; cases hk)
      have hx9 := hHeld.trans (bg9.mono hHeld.size)
      have s39 := (s38.below bg9).mono bg9.size
      have own9' := own_from own9 (B := w0.heap.size) (fun k hk => by have q1 := (own9.lt k hk).1; have q2 := hHeld.size; have q3 := hBV'.out.size; omega)
      refine hK.out _ _ (hx9) (fun hHeld => ?_)
      clear hK K
      try simp only [Act.put, List.setIfInBounds_toArray, List.set_cons_zero, List.set_cons_succ]
      refine wpAnyH_ready (rs := [8]) (by kernel_rfl) (by simp) ?_
      refine AllReadyH.cons (o := ⟨_, _, _, _, _, _⟩) rfl (fun K hK => ?_) AllReadyH.nil
      refine wp_append_cellsB _ (.tmp 63) (.tmp 64) 22 rfl w0.heap.size 40 i0 z0 2 24 Tryz.underlying22 hi hz0 hz1 hz2 hz6 (by decide) v9 (k + 1) _ own9' (by have q2 := hHeld.size; have q3 := hBV'.out.size; omega) _ a3 (n - k) c3 (mkcells (L.drop k)) hdl.out s39 (hone.out _) rfl rfl (by simp [maxLen]; omega) (by omega) ?_
      intro v11 w11 own11 grow11
      have hx11 : Below V.heap.size V w11 := hHeld.grown grow11 hHeld.size (fun k hk => by have q1 := (own9.lt k hk).1; have q2 := hx8.size; omega)
      refine hK.out _ _ (hx11) (fun hHeld => ?_)
      clear hK K
      refine wT 9 (v := ?v14) rfl (by kernel_rfl) (fun _ _ _ h => h) ?h14 (by assumption) ?r14
      case h14 => (intro w hSw; (try dsimp only at hSw); go_simp; try with_reducible rfl)
      try simp only [Act.put, List.setIfInBounds_toArray, List.set_cons_zero, List.set_cons_succ]
      refine wpAnyH_done (by kernel_rfl) ?_ _
      have hfin : Hid (w11.ownsRow w0.heap.size 40 2 v11 (n + 1) (mkcells (L.take k ++ ⟨mf, ms⟩ :: L.drop k)) ∧ Below w0.heap.size w0 w11) := Lib.hid ⟨by rw [hfin5.out k, show n + 1 = k + 1 + (n - k) by omega]; exact own11, hBV'.out.trans (hx11.mono hBV'.out.size)⟩
      clear own11 grow11 hx11 own9' own9 grow9 bg9 s39 s38 s8 hx8 hx9 hHeld h0 h1
      go_wp2
      go_ret
      exact ⟨v11, n + 1, rfl, by rw [hO3.out]; simp [List.length_take]; have := hol'.out; omega, by rw [hO3.out]; exact hfin.out.1, hfin.out.2⟩
end Go.Proofs.YtpchncpcckfghaaGreat
namespace Go.Proofs.YtpchncpcckfghaaGreat
open Go.RowKit
set_option linter.unusedVariables false
set_option linter.unusedSimpArgs false
theorem put_len (m : MkD) : ∀ L : List MkD, (putL L m).length ≤ L.length + 1
  | [] => by simp [putL]
  | t :: L => by
    have := put_len m L
    unfold putL
    split
    · simp; omega
    · split <;> simp
theorem union_next (A B : List MkD) {k : Nat} (hk : k < B.length) : unionR A (B.take (k + 1)) = putL (unionR A (B.take k)) (B.getD k mk0) := by
  have e : B.take (k + 1) = B.take k ++ [B.getD k mk0] := by rw [List.take_add_one]; simp [List.getD, hk]
  rw [e]
  unfold unionR
  rw [List.foldl_append]
  rfl
theorem union_len : ∀ (B A : List MkD), (unionR A B).length ≤ A.length + B.length
  | [], A => by simp [unionR]
  | m :: B, A => by
    have h1 := union_len B (putL A m)
    have h2 := put_len m A
    have e : unionR A (m :: B) = unionR (putL A m) B := rfl
    rw [e]
    simp
    omega
end Go.Proofs.YtpchncpcckfghaaGreat
namespace Go.Proofs.YtpchncpcckfghaaGreat
open Go.RowKit
set_option linter.unusedVariables false
set_option linter.unusedSimpArgs false
def rkF (l : List AlD) (i k : Nat) : Nat := (List.range k).countP fun j => aheadB cmpA l al0 j i && decide (keyA (l.getD j al0) = keyA (l.getD i al0))
theorem rkF_le (l : List AlD) (i k : Nat) : rkF l i k ≤ k := by
  unfold rkF
  exact Nat.le_trans List.countP_le_length (by simp)
theorem rkF_step (l : List AlD) (i k : Nat) : rkF l i (k + 1) = rkF l i k + (if (aheadB cmpA l al0 k i && decide (keyA (l.getD k al0) = keyA (l.getD i al0))) = true then 1 else 0) := by
  unfold rkF
  rw [List.range_succ, List.countP_append, List.countP_cons, List.countP_nil]
  simp
theorem key_test (a b : AlD) : ((strOfNums (keyA a)).toList == (strOfNums (keyA b)).toList) = decide (keyA a = keyA b) := by
  by_cases h : keyA a = keyA b
  · rw [h]; simp
  · rw [decide_eq_false h]; exact str_ne (keyA_bs _) (keyA_bs _) h
set_option maxRecDepth 100000 in
set_option maxHeartbeats 8000000 in
theorem rrank_any (l : List AlD) (a : Option Addr) (n c : Nat) (w : World) (h : RO alC w a n c l) (hW : ∀ s ∈ l, alW s) (hS : ∀ s ∈ l, smallA s) (i : Nat) (hi : i < n) (hn : n ≤ 100) :
    Calls Tryz.prog 49 #[.slice a n c, .int .i64 i] w (Gives (.int .i64 (rankA l i : Int)) w) := by
  have hlen := h.len
  have hm : (n : Int) ≤ 100 := by omega
  have hii : (i : Int) < (n : Int) := by omega
  have hRO := Lib.hid h
  have hend : Hid (rkF l i n = rankA l i) := Lib.hid (by rw [hlen]; rfl)
  have hst := Lib.hid (rkF_step l i)
  have hle := Lib.hid (rkF_le l i)
  have hg : Hid (∀ j, j < n → alW (l.getD j al0) ∧ smallA (l.getD j al0)) := Lib.hid (fun j hj => by
    have q : l.getD j al0 ∈ l := (by rw [hlen] at hj; simp [List.getD, hj])
    exact ⟨hW _ q, hS _ q⟩)
  clear h hW hS hlen
  go_enter Tryz.func49, Tryz.ntmps49
  go_wp2
  go_loopw [5, 6] (fun x y wr => ∃ k : Nat, k ≤ n ∧ x = .int .i64 (rkF l i k : Nat) ∧ y = .int .i64 k ∧ Hid (Below w.heap.size w wr)) (fun _ y _ => n - (intOf y).toNat)
  case atStart => exact ⟨0, Nat.zero_le _, rfl, rfl, Lib.hid (Below.refl _ _)⟩
  case round =>
    obtain ⟨k, hk, rfl, rfl, hB⟩ := hrel
    generalize wr = u0 at *
    by_cases hlt : k < n
    · have hki : (k : Int) < (n : Int) := by omega
      have hR := hRO.out.below hB.out
      obtain ⟨b, off, rfl, hlb, x0, x1, x2, x3, x4, x5⟩ := al_at hR hlt
      obtain ⟨b', off', hbb, -, z0, z1, z2, z3, z4, z5⟩ := al_at hR hi
      injection hbb with hbb
      injection hbb with hb1 hb2
      subst hb1 hb2
      obtain ⟨⟨wk, -⟩, smk⟩ := hg.out k hlt
      obtain ⟨⟨wi, -⟩, smi⟩ := hg.out i hi
      have q1 := Lib.hid (fun W => acmp_any (l.getD k al0) (l.getD i al0) W)
      have q2 := Lib.hid (fun W => rfkey_any (l.getD k al0) wk smk W)
      have q3 := Lib.hid (fun W => rfkey_any (l.getD i al0) wi smi W)
      have ht := key_test (l.getD k al0) (l.getD i al0)
      have hs := hst.out k
      have hah : aheadB cmpA l al0 k i = (decide (cmpA (l.getD k al0) (l.getD i al0) < 0) || (decide (cmpA (l.getD k al0) (l.getD i al0) = 0) && decide (k < i))) := rfl
      rw [hah] at hs
      have hlek := hle.out k
      clear hR wk wi smk smi hah
      have y0 : ∀ W, Below u0.heap.size u0 W → W.cell? ⟨b, off + k * 6, none⟩ = some (.int .i64 (l.getD k al0).kind) := fun W hW => (hW.cell (p := ⟨b, off + k * 6, none⟩) hlb).trans x0
      have y1 : ∀ W, Below u0.heap.size u0 W → W.cell? ⟨b, off + k * 6 + 1, none⟩ = some (.int .i64 (l.getD k al0).sev) := fun W hW => (hW.cell (p := ⟨b, off + k * 6 + 1, none⟩) hlb).trans x1
      have y2 : ∀ W, Below u0.heap.size u0 W → W.cell? ⟨b, off + k * 6 + 2, none⟩ = some (.string (l.getD k al0).fn) := fun W hW => (hW.cell (p := ⟨b, off + k * 6 + 2, none⟩) hlb).trans x2
      have y3 : ∀ W, Below u0.heap.size u0 W → W.cell? ⟨b, off + k * 6 + 3, none⟩ = some (.string (l.getD k al0).file) := fun W hW => (hW.cell (p := ⟨b, off + k * 6 + 3, none⟩) hlb).trans x3
      have y4 : ∀ W, Below u0.heap.size u0 W → W.cell? ⟨b, off + k * 6 + 4, none⟩ = some (.int .i64 (l.getD k al0).line) := fun W hW => (hW.cell (p := ⟨b, off + k * 6 + 4, none⟩) hlb).trans x4
      have y5 : ∀ W, Below u0.heap.size u0 W → W.cell? ⟨b, off + k * 6 + 5, none⟩ = some (.string (l.getD k al0).expr) := fun W hW => (hW.cell (p := ⟨b, off + k * 6 + 5, none⟩) hlb).trans x5
      have p0 : ∀ W, Below u0.heap.size u0 W → W.cell? ⟨b, off + i * 6, none⟩ = some (.int .i64 (l.getD i al0).kind) := fun W hW => (hW.cell (p := ⟨b, off + i * 6, none⟩) hlb).trans z0
      have p1 : ∀ W, Below u0.heap.size u0 W → W.cell? ⟨b, off + i * 6 + 1, none⟩ = some (.int .i64 (l.getD i al0).sev) := fun W hW => (hW.cell (p := ⟨b, off + i * 6 + 1, none⟩) hlb).trans z1
      have p2 : ∀ W, Below u0.heap.size u0 W → W.cell? ⟨b, off + i * 6 + 2, none⟩ = some (.string (l.getD i al0).fn) := fun W hW => (hW.cell (p := ⟨b, off + i * 6 + 2, none⟩) hlb).trans z2
      have p3 : ∀ W, Below u0.heap.size u0 W → W.cell? ⟨b, off + i * 6 + 3, none⟩ = some (.string (l.getD i al0).file) := fun W hW => (hW.cell (p := ⟨b, off + i * 6 + 3, none⟩) hlb).trans z3
      have p4 : ∀ W, Below u0.heap.size u0 W → W.cell? ⟨b, off + i * 6 + 4, none⟩ = some (.int .i64 (l.getD i al0).line) := fun W hW => (hW.cell (p := ⟨b, off + i * 6 + 4, none⟩) hlb).trans z4
      have p5 : ∀ W, Below u0.heap.size u0 W → W.cell? ⟨b, off + i * 6 + 5, none⟩ = some (.string (l.getD i al0).expr) := fun W hW => (hW.cell (p := ⟨b, off + i * 6 + 5, none⟩) hlb).trans z5
      clear x0 x1 x2 x3 x4 x5 z0 z1 z2 z3 z4 z5
      obtain ⟨r1, hr1⟩ : ∃ r1, r1 = rkF l i (k + 1) := ⟨_, rfl⟩
      rw [← hr1] at hs
      have hr1' := Lib.hid hr1
      clear hr1
      generalize rkF l i k = r0 at *
      generalize cmpA (l.getD k al0) (l.getD i al0) = cv at *
      generalize decide (keyA (l.getD k al0) = keyA (l.getD i al0)) = bq at *
      generalize strOfNums (keyA (l.getD k al0)) = s1 at *
      generalize strOfNums (keyA (l.getD i al0)) = s2 at *
      generalize l.getD k al0 = A at *
      generalize l.getD i al0 = B at *
      obtain ⟨ak, av, af, ai, al, ax⟩ := A
      obtain ⟨bk, bv, bf, bi, bl, bx⟩ := B
      dsimp only at *
      have hr0 : (r0 : Int) ≤ 100 := by omega
      have hs' := Lib.hid hs
      clear hs hlek
      have go1 : ∀ (V : World) (hV : Hid (Below u0.heap.size u0 V)) (r : Nat), Hid (r = r1) → Hid (Below w.heap.size w V) := fun V hV r hr => Lib.hid (hB.out.trans (hV.out.mono hB.out.size))
      have go1' := Lib.hid go1
      clear go1
      by_cases hneg : cv < 0
      · have hne : (cv == 0) = false := by rw [beq_eq_false_iff_ne]; omega
        cases bq with
        | true =>
          have hr : Hid (r0 + 1 = r1) := Lib.hid (by rw [hs'.out, decide_eq_true hneg]; simp)
          clear hs' hst
          go_wp2
          refine wp_drawn_on (fun W => Below u0.heap.size u0 W) (by kernel_rfl) ((Below.refl _ _).drew) (fun hHeld => ?_)
          refine wT 0 (v := ?v1) rfl (by kernel_rfl) (fun _ _ _ h => h) ?h1 (by assumption) ?r1
          case h1 => (intro w hSw; (try dsimp only at hSw); go_simp; try with_reducible rfl)
          refine wT 1 (v := ?v2) rfl (by kernel_rfl) (fun _ _ _ h => h) ?h2 (by assumption) ?r2
          case h2 => (intro w hSw; (try dsimp only at hSw); go_simp; try with_reducible rfl)
          refine wT 2 (v := ?v3) rfl (by kernel_rfl) (fun _ _ _ h => h) ?h3 (by assumption) ?r3
          case h3 => (intro w hSw; (try dsimp only at hSw); go_simp; try with_reducible rfl)
          refine wT 3 (v := ?v4) rfl (by kernel_rfl) (fun _ _ _ h => h) ?h4 (by assumption) ?r4
          case h4 => (intro w hSw; (try dsimp only at hSw); go_simp; try with_reducible rfl)
          refine wT 4 (v := ?v5) rfl (by kernel_rfl) (fun _ _ _ h => h) ?h5 (by assumption) ?r5
          case h5 => (intro w hSw; (try dsimp only at hSw); go_simp; try with_reducible rfl)
          refine wT 5 (v := ?v6) rfl (by kernel_rfl) (fun _ _ _ h => h) ?h6 (by assumption) ?r6
          case h6 => (intro w hSw; (try dsimp only at hSw); go_simp; try with_reducible rfl)
          refine wT 6 (v := ?v7) rfl (by kernel_rfl) (fun _ _ _ h => h) ?h7 (by assumption) ?r7
          case h7 => (intro w hSw; (try dsimp only at hSw); go_simp; try with_reducible rfl)
          refine wT 7 (v := ?v8) rfl (by kernel_rfl) (fun _ _ _ h => h) ?h8 (by assumption) ?r8
          case h8 => (intro w hSw; (try dsimp only at hSw); go_simp; try with_reducible rfl)
          try simp only [Act.put, List.setIfInBounds_toArray, List.set_cons_zero, List.set_cons_succ]
          refine wpAnyH_ready (rs := [8]) (by kernel_rfl) (by simp) ?_
          refine AllReadyH.cons (o := ⟨_, _, _, _, _, _⟩) rfl (fun K hK => ?_) AllReadyH.nil
          go_simp
          with_reducible refine (q1.out _).mono ?_
          rintro e u1 ⟨rfl, b1⟩
          go_simp
          refine hK.out _ _ (hHeld.trans (b1.mono hHeld.size)) (fun hHeld => ?_)
          clear hK K
          refine wT 9 (v := ?v9) rfl (by kernel_rfl) (fun _ _ _ h => h) ?h9 (by assumption) ?r9
          case h9 => (intro w hSw; (try dsimp only at hSw); go_simp; try with_reducible rfl)
          try simp only [Act.put, List.setIfInBounds_toArray, List.set_cons_zero, List.set_cons_succ]
          refine wpAnyH_done (by kernel_rfl) ?_ _
          have hX2 : Below u0.heap.size u0 u1 := hHeld
          clear hHeld b1 q1
          go_wp2
          refine wp_drawn_on (fun W => Below u0.heap.size u0 W) (by kernel_rfl) (hX2.drew) (fun hHeld => ?_)
          refine wT 0 (v := ?v10) rfl (by kernel_rfl) (fun _ _ _ h => h) ?h10 (by assumption) ?r10
          case h10 => (intro w hSw; (try dsimp only at hSw); go_simp; try with_reducible rfl)
          refine wT 1 (v := ?v11) rfl (by kernel_rfl) (fun _ _ _ h => h) ?h11 (by assumption) ?r11
          case h11 => (intro w hSw; (try dsimp only at hSw); go_simp; try with_reducible rfl)
          refine wT 2 (v := ?v12) rfl (by kernel_rfl) (fun _ _ _ h => h) ?h12 (by assumption) ?r12
          case h12 => (intro w hSw; (try dsimp only at hSw); go_simp; try with_reducible rfl)
          refine wS 3 rfl (by kernel_rfl) (fun _ _ _ h => h) (by assumption) ?_
          refine wS 4 rfl (by kernel_rfl) (fun _ _ _ h => h) (by assumption) ?_
          refine wS 5 rfl (by kernel_rfl) (fun _ _ _ h => h) (by assumption) ?_
          refine wS 6 rfl (by kernel_rfl) (fun _ _ _ h => h) (by assumption) ?_
          refine wS 7 rfl (by kernel_rfl) (fun _ _ _ h => h) (by assumption) ?_
          refine wS 8 rfl (by kernel_rfl) (fun _ _ _ h => h) (by assumption) ?_
          refine wS 9 rfl (by kernel_rfl) (fun _ _ _ h => h) (by assumption) ?_
          refine wT 10 (v := ?v20) rfl (by kernel_rfl) (fun _ _ _ h => h) ?h20 (by assumption) ?r20
          case h20 => (intro w hSw; (try dsimp only at hSw); go_simp; try with_reducible rfl)
          refine wT 11 (v := ?v21) rfl (by kernel_rfl) (fun _ _ _ h => h) ?h21 (by assumption) ?r21
          case h21 => (intro w hSw; (try dsimp only at hSw); go_simp; try with_reducible rfl)
          refine wT 12 (v := ?v22) rfl (by kernel_rfl) (fun _ _ _ h => h) ?h22 (by assumption) ?r22
          case h22 => (intro w hSw; (try dsimp only at hSw); go_simp; try with_reducible rfl)
          refine wT 13 (v := ?v23) rfl (by kernel_rfl) (fun _ _ _ h => h) ?h23 (by assumption) ?r23
          case h23 => (intro w hSw; (try dsimp only at hSw); go_simp; try with_reducible rfl)
          refine wT 14 (v := ?v24) rfl (by kernel_rfl) (fun _ _ _ h => h) ?h24 (by assumption) ?r24
          case h24 => (intro w hSw; (try dsimp only at hSw); go_simp; try with_reducible rfl)
          refine wT 15 (v := ?v25) rfl (by kernel_rfl) (fun _ _ _ h => h) ?h25 (by assumption) ?r25
          case h25 => (intro w hSw; (try dsimp only at hSw); go_simp; try with_reducible rfl)
          refine wT 17 (v := ?v26) rfl (by kernel_rfl) (fun _ _ _ h => h) ?h26 (by assumption) ?r26
          case h26 => (intro w hSw; (try dsimp only at hSw); go_simp; try with_reducible rfl)
          refine wT 18 (v := ?v27) rfl (by kernel_rfl) (fun _ _ _ h => h) ?h27 (by assumption) ?r27
          case h27 => (intro w hSw; (try dsimp only at hSw); go_simp; try with_reducible rfl)
          refine wT 19 (v := ?v28) rfl (by kernel_rfl) (fun _ _ _ h => h) ?h28 (by assumption) ?r28
          case h28 => (intro w hSw; (try dsimp only at hSw); go_simp; try with_reducible rfl)
          refine wT 20 (v := ?v29) rfl (by kernel_rfl) (fun _ _ _ h => h) ?h29 (by assumption) ?r29
          case h29 => (intro w hSw; (try dsimp only at hSw); go_simp; try with_reducible rfl)
          try simp only [Act.put, List.setIfInBounds_toArray, List.set_cons_zero, List.set_cons_succ]
          refine wpAnyH_ready (rs := [16]) (by kernel_rfl) (by simp) ?_
          refine AllReadyH.cons (o := ⟨_, _, _, _, _, _⟩) rfl (fun K hK => ?_) AllReadyH.nil
          go_simp
          with_reducible refine (q2.out _).mono ?_
          rintro e u2 ⟨rfl, b2⟩
          go_simp
          refine hK.out _ _ (hHeld.trans (b2.mono hHeld.size)) (fun hHeld => ?_)
          clear hK K
          try simp only [Act.put, List.setIfInBounds_toArray, List.set_cons_zero, List.set_cons_succ]
          refine wpAnyH_ready (rs := [21]) (by kernel_rfl) (by simp) ?_
          refine AllReadyH.cons (o := ⟨_, _, _, _, _, _⟩) rfl (fun K hK => ?_) AllReadyH.nil
          go_simp
          with_reducible refine (q3.out _).mono ?_
          rintro e u3 ⟨rfl, b3⟩
          go_simp
          refine hK.out _ _ (hHeld.trans (b3.mono hHeld.size)) (fun hHeld => ?_)
          clear hK K
          refine wT 22 (v := ?v30) rfl (by kernel_rfl) (fun _ _ _ h => h) ?h30 (by assumption) ?r30
          case h30 => (intro w hSw; (try dsimp only at hSw); go_simp; try with_reducible rfl)
          refine wT 23 (v := ?v31) rfl (by kernel_rfl) (fun _ _ _ h => h) ?h31 (by assumption) ?r31
          case h31 => (intro w hSw; (try dsimp only at hSw); go_simp; try with_reducible rfl)
          try simp only [Act.put, List.setIfInBounds_toArray, List.set_cons_zero, List.set_cons_succ]
          refine wpAnyH_done (by kernel_rfl) ?_ _
          have hY := go1'.out _ (Lib.hid hHeld) r1 (Lib.hid rfl)
          clear hHeld hX2 go1'
          go_wp2
          go_roundw
          case rel => exact ⟨k + 1, by omega, by rw [← hr1'.out, ← hr.out] <;> first | rfl | go_num, by go_num, hY⟩
          case measure => simp [intOf]; omega
        | false =>
          have hr : Hid (r0 = r1) := Lib.hid (by rw [hs'.out, decide_eq_true hneg]; simp)
          clear hs' hst
          go_wp2
          refine wp_drawn_on (fun W => Below u0.heap.size u0 W) (by kernel_rfl) ((Below.refl _ _).drew) (fun hHeld => ?_)
          refine wT 0 (v := ?v32) rfl (by kernel_rfl) (fun _ _ _ h => h) ?h32 (by assumption) ?r32
          case h32 => (intro w hSw; (try dsimp only at hSw); go_simp; try with_reducible rfl)
          refine wT 1 (v := ?v33) rfl (by kernel_rfl) (fun _ _ _ h => h) ?h33 (by assumption) ?r33
          case h33 => (intro w hSw; (try dsimp only at hSw); go_simp; try with_reducible rfl)
          refine wT 2 (v := ?v34) rfl (by kernel_rfl) (fun _ _ _ h => h) ?h34 (by assumption) ?r34
          case h34 => (intro w hSw; (try dsimp only at hSw); go_simp; try with_reducible rfl)
          refine wT 3 (v := ?v35) rfl (by kernel_rfl) (fun _ _ _ h => h) ?h35 (by assumption) ?r35
          case h35 => (intro w hSw; (try dsimp only at hSw); go_simp; try with_reducible rfl)
          refine wT 4 (v := ?v36) rfl (by kernel_rfl) (fun _ _ _ h => h) ?h36 (by assumption) ?r36
          case h36 => (intro w hSw; (try dsimp only at hSw); go_simp; try with_reducible rfl)
          refine wT 5 (v := ?v37) rfl (by kernel_rfl) (fun _ _ _ h => h) ?h37 (by assumption) ?r37
          case h37 => (intro w hSw; (try dsimp only at hSw); go_simp; try with_reducible rfl)
          refine wT 6 (v := ?v38) rfl (by kernel_rfl) (fun _ _ _ h => h) ?h38 (by assumption) ?r38
          case h38 => (intro w hSw; (try dsimp only at hSw); go_simp; try with_reducible rfl)
          refine wT 7 (v := ?v39) rfl (by kernel_rfl) (fun _ _ _ h => h) ?h39 (by assumption) ?r39
          case h39 => (intro w hSw; (try dsimp only at hSw); go_simp; try with_reducible rfl)
          try simp only [Act.put, List.setIfInBounds_toArray, List.set_cons_zero, List.set_cons_succ]
          refine wpAnyH_ready (rs := [8]) (by kernel_rfl) (by simp) ?_
          refine AllReadyH.cons (o := ⟨_, _, _, _, _, _⟩) rfl (fun K hK => ?_) AllReadyH.nil
          go_simp
          with_reducible refine (q1.out _).mono ?_
          rintro e u1 ⟨rfl, b1⟩
          go_simp
          refine hK.out _ _ (hHeld.trans (b1.mono hHeld.size)) (fun hHeld => ?_)
          clear hK K
          refine wT 9 (v := ?v40) rfl (by kernel_rfl) (fun _ _ _ h => h) ?h40 (by assumption) ?r40
          case h40 => (intro w hSw; (try dsimp only at hSw); go_simp; try with_reducible rfl)
          try simp only [Act.put, List.setIfInBounds_toArray, List.set_cons_zero, List.set_cons_succ]
          refine wpAnyH_done (by kernel_rfl) ?_ _
          have hX2 : Below u0.heap.size u0 u1 := hHeld
          clear hHeld b1 q1
          go_wp2
          refine wp_drawn_on (fun W => Below u0.heap.size u0 W) (by kernel_rfl) (hX2.drew) (fun hHeld => ?_)
          refine wT 0 (v := ?v41) rfl (by kernel_rfl) (fun _ _ _ h => h) ?h41 (by assumption) ?r41
          case h41 => (intro w hSw; (try dsimp only at hSw); go_simp; try with_reducible rfl)
          refine wT 1 (v := ?v42) rfl (by kernel_rfl) (fun _ _ _ h => h) ?h42 (by assumption) ?r42
          case h42 => (intro w hSw; (try dsimp only at hSw); go_simp; try with_reducible rfl)
          refine wT 2 (v := ?v43) rfl (by kernel_rfl) (fun _ _ _ h => h) ?h43 (by assumption) ?r43
          case h43 => (intro w hSw; (try dsimp only at hSw); go_simp; try with_reducible rfl)
          refine wS 3 rfl (by kernel_rfl) (fun _ _ _ h => h) (by assumption) ?_
          refine wS 4 rfl (by kernel_rfl) (fun _ _ _ h => h) (by assumption) ?_
          refine wS 5 rfl (by kernel_rfl) (fun _ _ _ h => h) (by assumption) ?_
          refine wS 6 rfl (by kernel_rfl) (fun _ _ _ h => h) (by assumption) ?_
          refine wS 7 rfl (by kernel_rfl) (fun _ _ _ h => h) (by assumption) ?_
          refine wS 8 rfl (by kernel_rfl) (fun _ _ _ h => h) (by assumption) ?_
          refine wS 9 rfl (by kernel_rfl) (fun _ _ _ h => h) (by assumption) ?_
          refine wT 10 (v := ?v51) rfl (by kernel_rfl) (fun _ _ _ h => h) ?h51 (by assumption) ?r51
          case h51 => (intro w hSw; (try dsimp only at hSw); go_simp; try with_reducible rfl)
          refine wT 11 (v := ?v52) rfl (by kernel_rfl) (fun _ _ _ h => h) ?h52 (by assumption) ?r52
          case h52 => (intro w hSw; (try dsimp only at hSw); go_simp; try with_reducible rfl)
          refine wT 12 (v := ?v53) rfl (by kernel_rfl) (fun _ _ _ h => h) ?h53 (by assumption) ?r53
          case h53 => (intro w hSw; (try dsimp only at hSw); go_simp; try with_reducible rfl)
          refine wT 13 (v := ?v54) rfl (by kernel_rfl) (fun _ _ _ h => h) ?h54 (by assumption) ?r54
          case h54 => (intro w hSw; (try dsimp only at hSw); go_simp; try with_reducible rfl)
          refine wT 14 (v := ?v55) rfl (by kernel_rfl) (fun _ _ _ h => h) ?h55 (by assumption) ?r55
          case h55 => (intro w hSw; (try dsimp only at hSw); go_simp; try with_reducible rfl)
          refine wT 15 (v := ?v56) rfl (by kernel_rfl) (fun _ _ _ h => h) ?h56 (by assumption) ?r56
          case h56 => (intro w hSw; (try dsimp only at hSw); go_simp; try with_reducible rfl)
          refine wT 17 (v := ?v57) rfl (by kernel_rfl) (fun _ _ _ h => h) ?h57 (by assumption) ?r57
          case h57 => (intro w hSw; (try dsimp only at hSw); go_simp; try with_reducible rfl)
          refine wT 18 (v := ?v58) rfl (by kernel_rfl) (fun _ _ _ h => h) ?h58 (by assumption) ?r58
          case h58 => (intro w hSw; (try dsimp only at hSw); go_simp; try with_reducible rfl)
          refine wT 19 (v := ?v59) rfl (by kernel_rfl) (fun _ _ _ h => h) ?h59 (by assumption) ?r59
          case h59 => (intro w hSw; (try dsimp only at hSw); go_simp; try with_reducible rfl)
          refine wT 20 (v := ?v60) rfl (by kernel_rfl) (fun _ _ _ h => h) ?h60 (by assumption) ?r60
          case h60 => (intro w hSw; (try dsimp only at hSw); go_simp; try with_reducible rfl)
          try simp only [Act.put, List.setIfInBounds_toArray, List.set_cons_zero, List.set_cons_succ]
          refine wpAnyH_ready (rs := [16]) (by kernel_rfl) (by simp) ?_
          refine AllReadyH.cons (o := ⟨_, _, _, _, _, _⟩) rfl (fun K hK => ?_) AllReadyH.nil
          go_simp
          with_reducible refine (q2.out _).mono ?_
          rintro e u2 ⟨rfl, b2⟩
          go_simp
          refine hK.out _ _ (hHeld.trans (b2.mono hHeld.size)) (fun hHeld => ?_)
          clear hK K
          try simp only [Act.put, List.setIfInBounds_toArray, List.set_cons_zero, List.set_cons_succ]
          refine wpAnyH_ready (rs := [21]) (by kernel_rfl) (by simp) ?_
          refine AllReadyH.cons (o := ⟨_, _, _, _, _, _⟩) rfl (fun K hK => ?_) AllReadyH.nil
          go_simp
          with_reducible refine (q3.out _).mono ?_
          rintro e u3 ⟨rfl, b3⟩
          go_simp
          refine hK.out _ _ (hHeld.trans (b3.mono hHeld.size)) (fun hHeld => ?_)
          clear hK K
          refine wT 22 (v := ?v61) rfl (by kernel_rfl) (fun _ _ _ h => h) ?h61 (by assumption) ?r61
          case h61 => (intro w hSw; (try dsimp only at hSw); go_simp; try with_reducible rfl)
          refine wT 23 (v := ?v62) rfl (by kernel_rfl) (fun _ _ _ h => h) ?h62 (by assumption) ?r62
          case h62 => (intro w hSw; (try dsimp only at hSw); go_simp; try with_reducible rfl)
          try simp only [Act.put, List.setIfInBounds_toArray, List.set_cons_zero, List.set_cons_succ]
          refine wpAnyH_done (by kernel_rfl) ?_ _
          have hY := go1'.out _ (Lib.hid hHeld) r1 (Lib.hid rfl)
          clear hHeld hX2 go1'
          go_wp2
          go_roundw
          case rel => exact ⟨k + 1, by omega, by rw [← hr1'.out, ← hr.out] <;> first | rfl | go_num, by go_num, hY⟩
          case measure => simp [intOf]; omega
      · by_cases hz : cv = 0
        · subst hz
          by_cases hki2 : k < i
          · have hki3 : (k : Int) < (i : Int) := by omega
            cases bq with
            | true =>
              have hr : Hid (r0 + 1 = r1) := Lib.hid (by rw [hs'.out, decide_eq_true hki2]; simp)
              clear hs' hst
              go_wp2
              refine wp_drawn_on (fun W => Below u0.heap.size u0 W) (by kernel_rfl) ((Below.refl _ _).drew) (fun hHeld => ?_)
              refine wT 0 (v := ?v63) rfl (by kernel_rfl) (fun _ _ _ h => h) ?h63 (by assumption) ?r63
              case h63 => (intro w hSw; (try dsimp only at hSw); go_simp; try with_reducible rfl)
              refine wT 1 (v := ?v64) rfl (by kernel_rfl) (fun _ _ _ h => h) ?h64 (by assumption) ?r64
              case h64 => (intro w hSw; (try dsimp only at hSw); go_simp; try with_reducible rfl)
              refine wT 2 (v := ?v65) rfl (by kernel_rfl) (fun _ _ _ h => h) ?h65 (by assumption) ?r65
              case h65 => (intro w hSw; (try dsimp only at hSw); go_simp; try with_reducible rfl)
              refine wT 3 (v := ?v66) rfl (by kernel_rfl) (fun _ _ _ h => h) ?h66 (by assumption) ?r66
              case h66 => (intro w hSw; (try dsimp only at hSw); go_simp; try with_reducible rfl)
              refine wT 4 (v := ?v67) rfl (by kernel_rfl) (fun _ _ _ h => h) ?h67 (by assumption) ?r67
              case h67 => (intro w hSw; (try dsimp only at hSw); go_simp; try with_reducible rfl)
              refine wT 5 (v := ?v68) rfl (by kernel_rfl) (fun _ _ _ h => h) ?h68 (by assumption) ?r68
              case h68 => (intro w hSw; (try dsimp only at hSw); go_simp; try with_reducible rfl)
              refine wT 6 (v := ?v69) rfl (by kernel_rfl) (fun _ _ _ h => h) ?h69 (by assumption) ?r69
              case h69 => (intro w hSw; (try dsimp only at hSw); go_simp; try with_reducible rfl)
              refine wT 7 (v := ?v70) rfl (by kernel_rfl) (fun _ _ _ h => h) ?h70 (by assumption) ?r70
              case h70 => (intro w hSw; (try dsimp only at hSw); go_simp; try with_reducible rfl)
              try simp only [Act.put, List.setIfInBounds_toArray, List.set_cons_zero, List.set_cons_succ]
              refine wpAnyH_ready (rs := [8]) (by kernel_rfl) (by simp) ?_
              refine AllReadyH.cons (o := ⟨_, _, _, _, _, _⟩) rfl (fun K hK => ?_) AllReadyH.nil
              go_simp
              with_reducible refine (q1.out _).mono ?_
              rintro e u1 ⟨rfl, b1⟩
              go_simp
              refine hK.out _ _ (hHeld.trans (b1.mono hHeld.size)) (fun hHeld => ?_)
              clear hK K
              refine wT 9 (v := ?v71) rfl (by kernel_rfl) (fun _ _ _ h => h) ?h71 (by assumption) ?r71
              case h71 => (intro w hSw; (try dsimp only at hSw); go_simp; try with_reducible rfl)
              try simp only [Act.put, List.setIfInBounds_toArray, List.set_cons_zero, List.set_cons_succ]
              refine wpAnyH_done (by kernel_rfl) ?_ _
              have hX2 : Below u0.heap.size u0 u1 := hHeld
              clear hHeld b1 q1
              go_wp2
              refine wp_drawn_on (fun W => Below u0.heap.size u0 W) (by kernel_rfl) (hX2.drew) (fun hHeld => ?_)
              refine wT 0 (v := ?v72) rfl (by kernel_rfl) (fun _ _ _ h => h) ?h72 (by assumption) ?r72
              case h72 => (intro w hSw; (try dsimp only at hSw); go_simp; try with_reducible rfl)
              refine wT 1 (v := ?v73) rfl (by kernel_rfl) (fun _ _ _ h => h) ?h73 (by assumption) ?r73
              case h73 => (intro w hSw; (try dsimp only at hSw); go_simp; try with_reducible rfl)
              refine wT 2 (v := ?v74) rfl (by kernel_rfl) (fun _ _ _ h => h) ?h74 (by assumption) ?r74
              case h74 => (intro w hSw; (try dsimp only at hSw); go_simp; try with_reducible rfl)
              refine wT 3 (v := ?v75) rfl (by kernel_rfl) (fun _ _ _ h => h) ?h75 (by assumption) ?r75
              case h75 => (intro w hSw; (try dsimp only at hSw); go_simp; try with_reducible rfl)
              refine wT 4 (v := ?v76) rfl (by kernel_rfl) (fun _ _ _ h => h) ?h76 (by assumption) ?r76
              case h76 => (intro w hSw; (try dsimp only at hSw); go_simp; try with_reducible rfl)
              refine wT 5 (v := ?v77) rfl (by kernel_rfl) (fun _ _ _ h => h) ?h77 (by assumption) ?r77
              case h77 => (intro w hSw; (try dsimp only at hSw); go_simp; try with_reducible rfl)
              refine wT 6 (v := ?v78) rfl (by kernel_rfl) (fun _ _ _ h => h) ?h78 (by assumption) ?r78
              case h78 => (intro w hSw; (try dsimp only at hSw); go_simp; try with_reducible rfl)
              refine wT 7 (v := ?v79) rfl (by kernel_rfl) (fun _ _ _ h => h) ?h79 (by assumption) ?r79
              case h79 => (intro w hSw; (try dsimp only at hSw); go_simp; try with_reducible rfl)
              refine wT 8 (v := ?v80) rfl (by kernel_rfl) (fun _ _ _ h => h) ?h80 (by assumption) ?r80
              case h80 => (intro w hSw; (try dsimp only at hSw); go_simp; try with_reducible rfl)
              refine wT 9 (v := ?v81) rfl (by kernel_rfl) (fun _ _ _ h => h) ?h81 (by assumption) ?r81
              case h81 => (intro w hSw; (try dsimp only at hSw); go_simp; try with_reducible rfl)
              refine wT 10 (v := ?v82) rfl (by kernel_rfl) (fun _ _ _ h => h) ?h82 (by assumption) ?r82
              case h82 => (intro w hSw; (try dsimp only at hSw); go_simp; try with_reducible rfl)
              refine wT 11 (v := ?v83) rfl (by kernel_rfl) (fun _ _ _ h => h) ?h83 (by assumption) ?r83
              case h83 => (intro w hSw; (try dsimp only at hSw); go_simp; try with_reducible rfl)
              refine wT 12 (v := ?v84) rfl (by kernel_rfl) (fun _ _ _ h => h) ?h84 (by assumption) ?r84
              case h84 => (intro w hSw; (try dsimp only at hSw); go_simp; try with_reducible rfl)
              refine wT 13 (v := ?v85) rfl (by kernel_rfl) (fun _ _ _ h => h) ?h85 (by assumption) ?r85
              case h85 => (intro w hSw; (try dsimp only at hSw); go_simp; try with_reducible rfl)
              refine wT 14 (v := ?v86) rfl (by kernel_rfl) (fun _ _ _ h => h) ?h86 (by assumption) ?r86
              case h86 => (intro w hSw; (try dsimp only at hSw); go_simp; try with_reducible rfl)
              refine wT 15 (v := ?v87) rfl (by kernel_rfl) (fun _ _ _ h => h) ?h87 (by assumption) ?r87
              case h87 => (intro w hSw; (try dsimp only at hSw); go_simp; try with_reducible rfl)
              refine wT 17 (v := ?v88) rfl (by kernel_rfl) (fun _ _ _ h => h) ?h88 (by assumption) ?r88
              case h88 => (intro w hSw; (try dsimp only at hSw); go_simp; try with_reducible rfl)
              refine wT 18 (v := ?v89) rfl (by kernel_rfl) (fun _ _ _ h => h) ?h89 (by assumption) ?r89
              case h89 => (intro w hSw; (try dsimp only at hSw); go_simp; try with_reducible rfl)
              refine wT 19 (v := ?v90) rfl (by kernel_rfl) (fun _ _ _ h => h) ?h90 (by assumption) ?r90
              case h90 => (intro w hSw; (try dsimp only at hSw); go_simp; try with_reducible rfl)
              refine wT 20 (v := ?v91) rfl (by kernel_rfl) (fun _ _ _ h => h) ?h91 (by assumption) ?r91
              case h91 => (intro w hSw; (try dsimp only at hSw); go_simp; try with_reducible rfl)
              try simp only [Act.put, List.setIfInBounds_toArray, List.set_cons_zero, List.set_cons_succ]
              refine wpAnyH_ready (rs := [16]) (by kernel_rfl) (by simp) ?_
              refine AllReadyH.cons (o := ⟨_, _, _, _, _, _⟩) rfl (fun K hK => ?_) AllReadyH.nil
              go_simp
              with_reducible refine (q2.out _).mono ?_
              rintro e u2 ⟨rfl, b2⟩
              go_simp
              refine hK.out _ _ (hHeld.trans (b2.mono hHeld.size)) (fun hHeld => ?_)
              clear hK K
              try simp only [Act.put, List.setIfInBounds_toArray, List.set_cons_zero, List.set_cons_succ]
              refine wpAnyH_ready (rs := [21]) (by kernel_rfl) (by simp) ?_
              refine AllReadyH.cons (o := ⟨_, _, _, _, _, _⟩) rfl (fun K hK => ?_) AllReadyH.nil
              go_simp
              with_reducible refine (q3.out _).mono ?_
              rintro e u3 ⟨rfl, b3⟩
              go_simp
              refine hK.out _ _ (hHeld.trans (b3.mono hHeld.size)) (fun hHeld => ?_)
              clear hK K
              refine wT 22 (v := ?v92) rfl (by kernel_rfl) (fun _ _ _ h => h) ?h92 (by assumption) ?r92
              case h92 => (intro w hSw; (try dsimp only at hSw); go_simp; try with_reducible rfl)
              refine wT 23 (v := ?v93) rfl (by kernel_rfl) (fun _ _ _ h => h) ?h93 (by assumption) ?r93
              case h93 => (intro w hSw; (try dsimp only at hSw); go_simp; try with_reducible rfl)
              try simp only [Act.put, List.setIfInBounds_toArray, List.set_cons_zero, List.set_cons_succ]
              refine wpAnyH_done (by kernel_rfl) ?_ _
              have hY := go1'.out _ (Lib.hid hHeld) r1 (Lib.hid rfl)
              clear hHeld hX2 go1'
              go_wp2
              go_roundw
              case rel => exact ⟨k + 1, by omega, by rw [← hr1'.out, ← hr.out] <;> first | rfl | go_num, by go_num, hY⟩
              case measure => simp [intOf]; omega
            | false =>
              have hr : Hid (r0 = r1) := Lib.hid (by rw [hs'.out, decide_eq_true hki2]; simp)
              clear hs' hst
              go_wp2
              refine wp_drawn_on (fun W => Below u0.heap.size u0 W) (by kernel_rfl) ((Below.refl _ _).drew) (fun hHeld => ?_)
              refine wT 0 (v := ?v94) rfl (by kernel_rfl) (fun _ _ _ h => h) ?h94 (by assumption) ?r94
              case h94 => (intro w hSw; (try dsimp only at hSw); go_simp; try with_reducible rfl)
              refine wT 1 (v := ?v95) rfl (by kernel_rfl) (fun _ _ _ h => h) ?h95 (by assumption) ?r95
              case h95 => (intro w hSw; (try dsimp only at hSw); go_simp; try with_reducible rfl)
              refine wT 2 (v := ?v96) rfl (by kernel_rfl) (fun _ _ _ h => h) ?h96 (by assumption) ?r96
              case h96 => (intro w hSw; (try dsimp only at hSw); go_simp; try with_reducible rfl)
              refine wT 3 (v := ?v97) rfl (by kernel_rfl) (fun _ _ _ h => h) ?h97 (by assumption) ?r97
              case h97 => (intro w hSw; (try dsimp only at hSw); go_simp; try with_reducible rfl)
              refine wT 4 (v := ?v98) rfl (by kernel_rfl) (fun _ _ _ h => h) ?h98 (by assumption) ?r98
              case h98 => (intro w hSw; (try dsimp only at hSw); go_simp; try with_reducible rfl)
              refine wT 5 (v := ?v99) rfl (by kernel_rfl) (fun _ _ _ h => h) ?h99 (by assumption) ?r99
              case h99 => (intro w hSw; (try dsimp only at hSw); go_simp; try with_reducible rfl)
              refine wT 6 (v := ?v100) rfl (by kernel_rfl) (fun _ _ _ h => h) ?h100 (by assumption) ?r100
              case h100 => (intro w hSw; (try dsimp only at hSw); go_simp; try with_reducible rfl)
              refine wT 7 (v := ?v101) rfl (by kernel_rfl) (fun _ _ _ h => h) ?h101 (by assumption) ?r101
              case h101 => (intro w hSw; (try dsimp only at hSw); go_simp; try with_reducible rfl)
              try simp only [Act.put, List.setIfInBounds_toArray, List.set_cons_zero, List.set_cons_succ]
              refine wpAnyH_ready (rs := [8]) (by kernel_rfl) (by simp) ?_
              refine AllReadyH.cons (o := ⟨_, _, _, _, _, _⟩) rfl (fun K hK => ?_) AllReadyH.nil
              go_simp
              with_reducible refine (q1.out _).mono ?_
              rintro e u1 ⟨rfl, b1⟩
              go_simp
              refine hK.out _ _ (hHeld.trans (b1.mono hHeld.size)) (fun hHeld => ?_)
              clear hK K
              refine wT 9 (v := ?v102) rfl (by kernel_rfl) (fun _ _ _ h => h) ?h102 (by assumption) ?r102
              case h102 => (intro w hSw; (try dsimp only at hSw); go_simp; try with_reducible rfl)
              try simp only [Act.put, List.setIfInBounds_toArray, List.set_cons_zero, List.set_cons_succ]
              refine wpAnyH_done (by kernel_rfl) ?_ _
              have hX2 : Below u0.heap.size u0 u1 := hHeld
              clear hHeld b1 q1
              go_wp2
              refine wp_drawn_on (fun W => Below u0.heap.size u0 W) (by kernel_rfl) (hX2.drew) (fun hHeld => ?_)
              refine wT 0 (v := ?v103) rfl (by kernel_rfl) (fun _ _ _ h => h) ?h103 (by assumption) ?r103
              case h103 => (intro w hSw; (try dsimp only at hSw); go_simp; try with_reducible rfl)
              refine wT 1 (v := ?v104) rfl (by kernel_rfl) (fun _ _ _ h => h) ?h104 (by assumption) ?r104
              case h104 => (intro w hSw; (try dsimp only at hSw); go_simp; try with_reducible rfl)
              refine wT 2 (v := ?v105) rfl (by kernel_rfl) (fun _ _ _ h => h) ?h105 (by assumption) ?r105
              case h105 => (intro w hSw; (try dsimp only at hSw); go_simp; try with_reducible rfl)
              refine wT 3 (v := ?v106) rfl (by kernel_rfl) (fun _ _ _ h => h) ?h106 (by assumption) ?r106
              case h106 => (intro w hSw; (try dsimp only at hSw); go_simp; try with_reducible rfl)
              refine wT 4 (v := ?v107) rfl (by kernel_rfl) (fun _ _ _ h => h) ?h107 (by assumption) ?r107
              case h107 => (intro w hSw; (try dsimp only at hSw); go_simp; try with_reducible rfl)
              refine wT 5 (v := ?v108) rfl (by kernel_rfl) (fun _ _ _ h => h) ?h108 (by assumption) ?r108
              case h108 => (intro w hSw; (try dsimp only at hSw); go_simp; try with_reducible rfl)
              refine wT 6 (v := ?v109) rfl (by kernel_rfl) (fun _ _ _ h => h) ?h109 (by assumption) ?r109
              case h109 => (intro w hSw; (try dsimp only at hSw); go_simp; try with_reducible rfl)
              refine wT 7 (v := ?v110) rfl (by kernel_rfl) (fun _ _ _ h => h) ?h110 (by assumption) ?r110
              case h110 => (intro w hSw; (try dsimp only at hSw); go_simp; try with_reducible rfl)
              refine wT 8 (v := ?v111) rfl (by kernel_rfl) (fun _ _ _ h => h) ?h111 (by assumption) ?r111
              case h111 => (intro w hSw; (try dsimp only at hSw); go_simp; try with_reducible rfl)
              refine wT 9 (v := ?v112) rfl (by kernel_rfl) (fun _ _ _ h => h) ?h112 (by assumption) ?r112
              case h112 => (intro w hSw; (try dsimp only at hSw); go_simp; try with_reducible rfl)
              refine wT 10 (v := ?v113) rfl (by kernel_rfl) (fun _ _ _ h => h) ?h113 (by assumption) ?r113
              case h113 => (intro w hSw; (try dsimp only at hSw); go_simp; try with_reducible rfl)
              refine wT 11 (v := ?v114) rfl (by kernel_rfl) (fun _ _ _ h => h) ?h114 (by assumption) ?r114
              case h114 => (intro w hSw; (try dsimp only at hSw); go_simp; try with_reducible rfl)
              refine wT 12 (v := ?v115) rfl (by kernel_rfl) (fun _ _ _ h => h) ?h115 (by assumption) ?r115
              case h115 => (intro w hSw; (try dsimp only at hSw); go_simp; try with_reducible rfl)
              refine wT 13 (v := ?v116) rfl (by kernel_rfl) (fun _ _ _ h => h) ?h116 (by assumption) ?r116
              case h116 => (intro w hSw; (try dsimp only at hSw); go_simp; try with_reducible rfl)
              refine wT 14 (v := ?v117) rfl (by kernel_rfl) (fun _ _ _ h => h) ?h117 (by assumption) ?r117
              case h117 => (intro w hSw; (try dsimp only at hSw); go_simp; try with_reducible rfl)
              refine wT 15 (v := ?v118) rfl (by kernel_rfl) (fun _ _ _ h => h) ?h118 (by assumption) ?r118
              case h118 => (intro w hSw; (try dsimp only at hSw); go_simp; try with_reducible rfl)
              refine wT 17 (v := ?v119) rfl (by kernel_rfl) (fun _ _ _ h => h) ?h119 (by assumption) ?r119
              case h119 => (intro w hSw; (try dsimp only at hSw); go_simp; try with_reducible rfl)
              refine wT 18 (v := ?v120) rfl (by kernel_rfl) (fun _ _ _ h => h) ?h120 (by assumption) ?r120
              case h120 => (intro w hSw; (try dsimp only at hSw); go_simp; try with_reducible rfl)
              refine wT 19 (v := ?v121) rfl (by kernel_rfl) (fun _ _ _ h => h) ?h121 (by assumption) ?r121
              case h121 => (intro w hSw; (try dsimp only at hSw); go_simp; try with_reducible rfl)
              refine wT 20 (v := ?v122) rfl (by kernel_rfl) (fun _ _ _ h => h) ?h122 (by assumption) ?r122
              case h122 => (intro w hSw; (try dsimp only at hSw); go_simp; try with_reducible rfl)
              try simp only [Act.put, List.setIfInBounds_toArray, List.set_cons_zero, List.set_cons_succ]
              refine wpAnyH_ready (rs := [16]) (by kernel_rfl) (by simp) ?_
              refine AllReadyH.cons (o := ⟨_, _, _, _, _, _⟩) rfl (fun K hK => ?_) AllReadyH.nil
              go_simp
              with_reducible refine (q2.out _).mono ?_
              rintro e u2 ⟨rfl, b2⟩
              go_simp
              refine hK.out _ _ (hHeld.trans (b2.mono hHeld.size)) (fun hHeld => ?_)
              clear hK K
              try simp only [Act.put, List.setIfInBounds_toArray, List.set_cons_zero, List.set_cons_succ]
              refine wpAnyH_ready (rs := [21]) (by kernel_rfl) (by simp) ?_
              refine AllReadyH.cons (o := ⟨_, _, _, _, _, _⟩) rfl (fun K hK => ?_) AllReadyH.nil
              go_simp
              with_reducible refine (q3.out _).mono ?_
              rintro e u3 ⟨rfl, b3⟩
              go_simp
              refine hK.out _ _ (hHeld.trans (b3.mono hHeld.size)) (fun hHeld => ?_)
              clear hK K
              refine wT 22 (v := ?v123) rfl (by kernel_rfl) (fun _ _ _ h => h) ?h123 (by assumption) ?r123
              case h123 => (intro w hSw; (try dsimp only at hSw); go_simp; try with_reducible rfl)
              refine wT 23 (v := ?v124) rfl (by kernel_rfl) (fun _ _ _ h => h) ?h124 (by assumption) ?r124
              case h124 => (intro w hSw; (try dsimp only at hSw); go_simp; try with_reducible rfl)
              try simp only [Act.put, List.setIfInBounds_toArray, List.set_cons_zero, List.set_cons_succ]
              refine wpAnyH_done (by kernel_rfl) ?_ _
              have hY := go1'.out _ (Lib.hid hHeld) r1 (Lib.hid rfl)
              clear hHeld hX2 go1'
              go_wp2
              go_roundw
              case rel => exact ⟨k + 1, by omega, by rw [← hr1'.out, ← hr.out] <;> first | rfl | go_num, by go_num, hY⟩
              case measure => simp [intOf]; omega
          · have hki3 : ¬ (k : Int) < (i : Int) := by omega
            have hnb : decide ((k : Int) < (i : Int)) = false := decide_eq_false hki3
            have hnc : decide (k < i) = false := decide_eq_false hki2
            have hr : Hid (r0 = r1) := Lib.hid (by rw [hs'.out, decide_eq_false hki2]; simp)
            clear hs' hst
            go_wp2
            refine wp_drawn_on (fun W => Below u0.heap.size u0 W) (by kernel_rfl) ((Below.refl _ _).drew) (fun hHeld => ?_)
            refine wT 0 (v := ?v125) rfl (by kernel_rfl) (fun _ _ _ h => h) ?h125 (by assumption) ?r125
            case h125 => (intro w hSw; (try dsimp only at hSw); go_simp; try with_reducible rfl)
            refine wT 1 (v := ?v126) rfl (by kernel_rfl) (fun _ _ _ h => h) ?h126 (by assumption) ?r126
            case h126 => (intro w hSw; (try dsimp only at hSw); go_simp; try with_reducible rfl)
            refine wT 2 (v := ?v127) rfl (by kernel_rfl) (fun _ _ _ h => h) ?h127 (by assumption) ?r127
            case h127 => (intro w hSw; (try dsimp only at hSw); go_simp; try with_reducible rfl)
            refine wT 3 (v := ?v128) rfl (by kernel_rfl) (fun _ _ _ h => h) ?h128 (by assumption) ?r128
            case h128 => (intro w hSw; (try dsimp only at hSw); go_simp; try with_reducible rfl)
            refine wT 4 (v := ?v129) rfl (by kernel_rfl) (fun _ _ _ h => h) ?h129 (by assumption) ?r129
            case h129 => (intro w hSw; (try dsimp only at hSw); go_simp; try with_reducible rfl)
            refine wT 5 (v := ?v130) rfl (by kernel_rfl) (fun _ _ _ h => h) ?h130 (by assumption) ?r130
            case h130 => (intro w hSw; (try dsimp only at hSw); go_simp; try with_reducible rfl)
            refine wT 6 (v := ?v131) rfl (by kernel_rfl) (fun _ _ _ h => h) ?h131 (by assumption) ?r131
            case h131 => (intro w hSw; (try dsimp only at hSw); go_simp; try with_reducible rfl)
            refine wT 7 (v := ?v132) rfl (by kernel_rfl) (fun _ _ _ h => h) ?h132 (by assumption) ?r132
            case h132 => (intro w hSw; (try dsimp only at hSw); go_simp; try with_reducible rfl)
            try simp only [Act.put, List.setIfInBounds_toArray, List.set_cons_zero, List.set_cons_succ]
            refine wpAnyH_ready (rs := [8]) (by kernel_rfl) (by simp) ?_
            refine AllReadyH.cons (o := ⟨_, _, _, _, _, _⟩) rfl (fun K hK => ?_) AllReadyH.nil
            go_simp
            with_reducible refine (q1.out _).mono ?_
            rintro e u1 ⟨rfl, b1⟩
            go_simp
            refine hK.out _ _ (hHeld.trans (b1.mono hHeld.size)) (fun hHeld => ?_)
            clear hK K
            refine wT 9 (v := ?v133) rfl (by kernel_rfl) (fun _ _ _ h => h) ?h133 (by assumption) ?r133
            case h133 => (intro w hSw; (try dsimp only at hSw); go_simp; try with_reducible rfl)
            try simp only [Act.put, List.setIfInBounds_toArray, List.set_cons_zero, List.set_cons_succ]
            refine wpAnyH_done (by kernel_rfl) ?_ _
            have hX2 : Below u0.heap.size u0 u1 := hHeld
            clear hHeld b1 q1
            go_wp2
            refine wp_drawn_on (fun W => Below u0.heap.size u0 W) (by kernel_rfl) (hX2.drew) (fun hHeld => ?_)
            refine wT 0 (v := ?v134) rfl (by kernel_rfl) (fun _ _ _ h => h) ?h134 (by assumption) ?r134
            case h134 => (intro w hSw; (try dsimp only at hSw); go_simp; try with_reducible rfl)
            refine wT 1 (v := ?v135) rfl (by kernel_rfl) (fun _ _ _ h => h) ?h135 (by assumption) ?r135
            case h135 => (intro w hSw; (try dsimp only at hSw); go_simp; try with_reducible rfl)
            refine wT 2 (v := ?v136) rfl (by kernel_rfl) (fun _ _ _ h => h) ?h136 (by assumption) ?r136
            case h136 => (intro w hSw; (try dsimp only at hSw); go_simp; try with_reducible rfl)
            refine wT 3 (v := ?v137) rfl (by kernel_rfl) (fun _ _ _ h => h) ?h137 (by assumption) ?r137
            case h137 => (intro w hSw; (try dsimp only at hSw); go_simp; try with_reducible rfl)
            refine wT 4 (v := ?v138) rfl (by kernel_rfl) (fun _ _ _ h => h) ?h138 (by assumption) ?r138
            case h138 => (intro w hSw; (try dsimp only at hSw); go_simp; try with_reducible rfl)
            refine wT 5 (v := ?v139) rfl (by kernel_rfl) (fun _ _ _ h => h) ?h139 (by assumption) ?r139
            case h139 => (intro w hSw; (try dsimp only at hSw); go_simp; try with_reducible rfl)
            refine wT 6 (v := ?v140) rfl (by kernel_rfl) (fun _ _ _ h => h) ?h140 (by assumption) ?r140
            case h140 => (intro w hSw; (try dsimp only at hSw); go_simp; try with_reducible rfl)
            refine wT 7 (v := ?v141) rfl (by kernel_rfl) (fun _ _ _ h => h) ?h141 (by assumption) ?r141
            case h141 => (intro w hSw; (try dsimp only at hSw); go_simp; try with_reducible rfl)
            refine wT 8 (v := ?v142) rfl (by kernel_rfl) (fun _ _ _ h => h) ?h142 (by assumption) ?r142
            case h142 => (intro w hSw; (try dsimp only at hSw); go_simp; try with_reducible rfl)
            refine wT 9 (v := ?v143) rfl (by kernel_rfl) (fun _ _ _ h => h) ?h143 (by assumption) ?r143
            case h143 => (intro w hSw; (try dsimp only at hSw); go_simp; try with_reducible rfl)
            refine wT 10 (v := ?v144) rfl (by kernel_rfl) (fun _ _ _ h => h) ?h144 (by assumption) ?r144
            case h144 => (intro w hSw; (try dsimp only at hSw); go_simp; try with_reducible rfl)
            refine wT 11 (v := ?v145) rfl (by kernel_rfl) (fun _ _ _ h => h) ?h145 (by assumption) ?r145
            case h145 => (intro w hSw; (try dsimp only at hSw); go_simp; try with_reducible rfl)
            refine wS 12 rfl (by kernel_rfl) (fun _ _ _ h => h) (by assumption) ?_
            refine wS 13 rfl (by kernel_rfl) (fun _ _ _ h => h) (by assumption) ?_
            refine wS 14 rfl (by kernel_rfl) (fun _ _ _ h => h) (by assumption) ?_
            refine wS 15 rfl (by kernel_rfl) (fun _ _ _ h => h) (by assumption) ?_
            refine wS 16 rfl (by kernel_rfl) (fun _ _ _ h => h) (by assumption) ?_
            refine wS 17 rfl (by kernel_rfl) (fun _ _ _ h => h) (by assumption) ?_
            refine wS 18 rfl (by kernel_rfl) (fun _ _ _ h => h) (by assumption) ?_
            refine wS 19 rfl (by kernel_rfl) (fun _ _ _ h => h) (by assumption) ?_
            refine wS 20 rfl (by kernel_rfl) (fun _ _ _ h => h) (by assumption) ?_
            refine wS 21 rfl (by kernel_rfl) (fun _ _ _ h => h) (by assumption) ?_
            refine wS 22 rfl (by kernel_rfl) (fun _ _ _ h => h) (by assumption) ?_
            refine wT 23 (v := ?v157) rfl (by kernel_rfl) (fun _ _ _ h => h) ?h157 (by assumption) ?r157
            case h157 => (intro w hSw; (try dsimp only at hSw); go_simp; try with_reducible rfl)
            try simp only [Act.put, List.setIfInBounds_toArray, List.set_cons_zero, List.set_cons_succ]
            refine wpAnyH_done (by kernel_rfl) ?_ _
            have hY := go1'.out _ (Lib.hid hHeld) r1 (Lib.hid rfl)
            clear hHeld hX2 go1'
            go_wp2
            go_roundw
            case rel => exact ⟨k + 1, by omega, by rw [← hr1'.out, ← hr.out] <;> first | rfl | go_num, by go_num, hY⟩
            case measure => simp [intOf]; omega
        · have hne : (cv == 0) = false := by rw [beq_eq_false_iff_ne]; exact hz
          have hnb : decide (cv < 0) = false := decide_eq_false hneg
          have hr : Hid (r0 = r1) := Lib.hid (by rw [hs'.out, decide_eq_false hneg, decide_eq_false hz]; simp)
          clear hs' hst
          go_wp2
          refine wp_drawn_on (fun W => Below u0.heap.size u0 W) (by kernel_rfl) ((Below.refl _ _).drew) (fun hHeld => ?_)
          refine wT 0 (v := ?v158) rfl (by kernel_rfl) (fun _ _ _ h => h) ?h158 (by assumption) ?r158
          case h158 => (intro w hSw; (try dsimp only at hSw); go_simp; try with_reducible rfl)
          refine wT 1 (v := ?v159) rfl (by kernel_rfl) (fun _ _ _ h => h) ?h159 (by assumption) ?r159
          case h159 => (intro w hSw; (try dsimp only at hSw); go_simp; try with_reducible rfl)
          refine wT 2 (v := ?v160) rfl (by kernel_rfl) (fun _ _ _ h => h) ?h160 (by assumption) ?r160
          case h160 => (intro w hSw; (try dsimp only at hSw); go_simp; try with_reducible rfl)
          refine wT 3 (v := ?v161) rfl (by kernel_rfl) (fun _ _ _ h => h) ?h161 (by assumption) ?r161
          case h161 => (intro w hSw; (try dsimp only at hSw); go_simp; try with_reducible rfl)
          refine wT 4 (v := ?v162) rfl (by kernel_rfl) (fun _ _ _ h => h) ?h162 (by assumption) ?r162
          case h162 => (intro w hSw; (try dsimp only at hSw); go_simp; try with_reducible rfl)
          refine wT 5 (v := ?v163) rfl (by kernel_rfl) (fun _ _ _ h => h) ?h163 (by assumption) ?r163
          case h163 => (intro w hSw; (try dsimp only at hSw); go_simp; try with_reducible rfl)
          refine wT 6 (v := ?v164) rfl (by kernel_rfl) (fun _ _ _ h => h) ?h164 (by assumption) ?r164
          case h164 => (intro w hSw; (try dsimp only at hSw); go_simp; try with_reducible rfl)
          refine wT 7 (v := ?v165) rfl (by kernel_rfl) (fun _ _ _ h => h) ?h165 (by assumption) ?r165
          case h165 => (intro w hSw; (try dsimp only at hSw); go_simp; try with_reducible rfl)
          try simp only [Act.put, List.setIfInBounds_toArray, List.set_cons_zero, List.set_cons_succ]
          refine wpAnyH_ready (rs := [8]) (by kernel_rfl) (by simp) ?_
          refine AllReadyH.cons (o := ⟨_, _, _, _, _, _⟩) rfl (fun K hK => ?_) AllReadyH.nil
          go_simp
          with_reducible refine (q1.out _).mono ?_
          rintro e u1 ⟨rfl, b1⟩
          go_simp
          refine hK.out _ _ (hHeld.trans (b1.mono hHeld.size)) (fun hHeld => ?_)
          clear hK K
          refine wT 9 (v := ?v166) rfl (by kernel_rfl) (fun _ _ _ h => h) ?h166 (by assumption) ?r166
          case h166 => (intro w hSw; (try dsimp only at hSw); go_simp; try with_reducible rfl)
          try simp only [Act.put, List.setIfInBounds_toArray, List.set_cons_zero, List.set_cons_succ]
          refine wpAnyH_done (by kernel_rfl) ?_ _
          have hX2 : Below u0.heap.size u0 u1 := hHeld
          clear hHeld b1 q1
          go_wp2
          refine wp_drawn_on (fun W => Below u0.heap.size u0 W) (by kernel_rfl) (hX2.drew) (fun hHeld => ?_)
          refine wT 0 (v := ?v167) rfl (by kernel_rfl) (fun _ _ _ h => h) ?h167 (by assumption) ?r167
          case h167 => (intro w hSw; (try dsimp only at hSw); go_simp; try with_reducible rfl)
          refine wT 1 (v := ?v168) rfl (by kernel_rfl) (fun _ _ _ h => h) ?h168 (by assumption) ?r168
          case h168 => (intro w hSw; (try dsimp only at hSw); go_simp; try with_reducible rfl)
          refine wT 2 (v := ?v169) rfl (by kernel_rfl) (fun _ _ _ h => h) ?h169 (by assumption) ?r169
          case h169 => (intro w hSw; (try dsimp only at hSw); go_simp; try with_reducible rfl)
          refine wT 3 (v := ?v170) rfl (by kernel_rfl) (fun _ _ _ h => h) ?h170 (by assumption) ?r170
          case h170 => (intro w hSw; (try dsimp only at hSw); go_simp; try with_reducible rfl)
          refine wT 4 (v := ?v171) rfl (by kernel_rfl) (fun _ _ _ h => h) ?h171 (by assumption) ?r171
          case h171 => (intro w hSw; (try dsimp only at hSw); go_simp; try with_reducible rfl)
          refine wT 5 (v := ?v172) rfl (by kernel_rfl) (fun _ _ _ h => h) ?h172 (by assumption) ?r172
          case h172 => (intro w hSw; (try dsimp only at hSw); go_simp; try with_reducible rfl)
          refine wS 6 rfl (by kernel_rfl) (fun _ _ _ h => h) (by assumption) ?_
          refine wS 7 rfl (by kernel_rfl) (fun _ _ _ h => h) (by assumption) ?_
          refine wS 8 rfl (by kernel_rfl) (fun _ _ _ h => h) (by assumption) ?_
          refine wT 9 (v := ?v176) rfl (by kernel_rfl) (fun _ _ _ h => h) ?h176 (by assumption) ?r176
          case h176 => (intro w hSw; (try dsimp only at hSw); go_simp; try with_reducible rfl)
          refine wT 10 (v := ?v177) rfl (by kernel_rfl) (fun _ _ _ h => h) ?h177 (by assumption) ?r177
          case h177 => (intro w hSw; (try dsimp only at hSw); go_simp; try with_reducible rfl)
          refine wT 11 (v := ?v178) rfl (by kernel_rfl) (fun _ _ _ h => h) ?h178 (by assumption) ?r178
          case h178 => (intro w hSw; (try dsimp only at hSw); go_simp; try with_reducible rfl)
          refine wS 12 rfl (by kernel_rfl) (fun _ _ _ h => h) (by assumption) ?_
          refine wS 13 rfl (by kernel_rfl) (fun _ _ _ h => h) (by assumption) ?_
          refine wS 14 rfl (by kernel_rfl) (fun _ _ _ h => h) (by assumption) ?_
          refine wS 15 rfl (by kernel_rfl) (fun _ _ _ h => h) (by assumption) ?_
          refine wS 16 rfl (by kernel_rfl) (fun _ _ _ h => h) (by assumption) ?_
          refine wS 17 rfl (by kernel_rfl) (fun _ _ _ h => h) (by assumption) ?_
          refine wS 18 rfl (by kernel_rfl) (fun _ _ _ h => h) (by assumption) ?_
          refine wS 19 rfl (by kernel_rfl) (fun _ _ _ h => h) (by assumption) ?_
          refine wS 20 rfl (by kernel_rfl) (fun _ _ _ h => h) (by assumption) ?_
          refine wS 21 rfl (by kernel_rfl) (fun _ _ _ h => h) (by assumption) ?_
          refine wS 22 rfl (by kernel_rfl) (fun _ _ _ h => h) (by assumption) ?_
          refine wT 23 (v := ?v190) rfl (by kernel_rfl) (fun _ _ _ h => h) ?h190 (by assumption) ?r190
          case h190 => (intro w hSw; (try dsimp only at hSw); go_simp; try with_reducible rfl)
          try simp only [Act.put, List.setIfInBounds_toArray, List.set_cons_zero, List.set_cons_succ]
          refine wpAnyH_done (by kernel_rfl) ?_ _
          have hY := go1'.out _ (Lib.hid hHeld) r1 (Lib.hid rfl)
          clear hHeld hX2 go1'
          go_wp2
          go_roundw
          case rel => exact ⟨k + 1, by omega, by rw [← hr1'.out, ← hr.out] <;> first | rfl | go_num, by go_num, hY⟩
          case measure => simp [intOf]; omega
    · obtain rfl : k = n := by omega
      have hki : ¬ (k : Int) < (k : Int) := by omega
      rw [hend.out]
      go_wp2
      go_ret
      exact ⟨rfl, hB.out⟩
end Go.Proofs.YtpchncpcckfghaaGreat
namespace Go.Proofs.YtpchncpcckfghaaGreat
open Go.RowKit
set_option linter.unusedVariables false
set_option linter.unusedSimpArgs false
theorem infoU64' : (Tryz.prog.info? 36).map (fun i => (i.zero, i.size, i.bytes)) = some (some (.int .u64 0), 1, 8) := by kernel_rfl
theorem one_rank (a : AlD) (r : Nat) : oneA a (r : Int) = oneK (keyA a) r := by
  unfold oneA
  rw [show (max (r : Int) 0).toNat = r by omega]
theorem fing_take (l : List AlD) {k : Nat} (hk : k < l.length) : (fingA l).take (k + 1) = (fingA l).take k ++ [oneK (keyA (l.getD k al0)) (rankA l k)] := by
  rw [List.take_add_one, ← fing_at l hk]
  have : k < (fingA l).length := by rw [fing_len]; exact hk
  simp [List.getD, this]
theorem fone_r (a : AlD) (hk : (Lit.int .i64 a.kind).wf = true) (h : smallA a) (r : Nat) (hr : r ≤ 100) (w : World) :
    Calls Tryz.prog 48 #[.agg #[.int .i64 a.kind, .int .i64 a.sev, .string a.fn, .string a.file, .int .i64 a.line, .string a.expr], .int .i64 r] w (Gives (.int .u64 (oneK (keyA a) r)) w) := by
  have q := rfone_any a hk h (r : Int) (by simp [Lit.wf, IntKind.min, IntKind.max, IntKind.signed, IntKind.bits]; omega) w
  rwa [one_rank] at q
set_option maxRecDepth 100000 in
set_option maxHeartbeats 4000000 in
theorem rfofs_any (l : List AlD) (a : Option Addr) (n c : Nat) (w : World) (h : RO alC w a n c l) (hW : ∀ s ∈ l, alW s) (hS : ∀ s ∈ l, smallA s) (hn : n ≤ 100) :
    Calls Tryz.prog 27 #[.slice a n c] w (Made 36 .u64 w (fingA l)) := by
  obtain ⟨i0, hi, hz0, hz1, hz2⟩ := info_parts infoU64'
  have hlen := h.len
  have hm : (n : Int) ≤ 100 := by omega
  have hRO := Lib.hid h
  have hlen' := Lib.hid hlen
  have hg : Hid (∀ j, j < n → alW (l.getD j al0) ∧ smallA (l.getD j al0)) := Lib.hid (fun j hj => by
    have q : l.getD j al0 ∈ l := (by rw [hlen] at hj; simp [List.getD, hj])
    exact ⟨hW _ q, hS _ q⟩)
  have hrk := Lib.hid (fun (k : Nat) (hk : k < n) (W : World) (h : RO alC W a n c l) => rrank_any l a n c W h hW hS k hk hn)
  have hrl := Lib.hid (fun i => rank_le l i)
  have htk := Lib.hid (fun (k : Nat) (hk : k < n) => fing_take l (k := k) (by rw [← hlen]; exact hk))
  have hfl : Hid ((fingA l).length = n) := Lib.hid (by rw [fing_len, hlen])
  clear h hW hS hlen
  generalize fingA l = FL at *
  go_enter Tryz.func27, Tryz.ntmps27
  go_wp2
  go_loopw [3, 4] (fun x y wr => ∃ k : Nat, k ≤ n ∧ y = .int .i64 k ∧ Hid (wr.ownsRow w.heap.size 36 1 x k (nums .u64 (FL.take k))) ∧ Hid (Below w.heap.size w wr)) (fun _ y _ => n - (intOf y).toNat)
  case atStart => exact ⟨0, Nat.zero_le _, rfl, Lib.hid ⟨by simp [nums], .inl ⟨rfl, rfl⟩⟩, Lib.hid (Below.refl _ _)⟩
  case round =>
    obtain ⟨k, hk, rfl, hO, hB⟩ := hrel
    generalize wr = g0 at *
    by_cases hlt : k < n
    · have hki : (k : Int) < (n : Int) := by omega
      obtain ⟨b, off, rfl, hlb, x0, x1, x2, x3, x4, x5⟩ := al_at hRO.out hlt
      obtain ⟨⟨wk, -⟩, smk⟩ := hg.out k hlt
      have hr100 : rankA l k ≤ 100 := by have := hrl.out k; have := hlen'.out; omega
      have q1 := Lib.hid (hrk.out k hlt)
      have q2 := Lib.hid (fun W => fone_r (l.getD k al0) wk smk (rankA l k) hr100 W)
      have ht := Lib.hid (htk.out k hlt)
      have hFk : Hid ((FL.take k).length = k) := Lib.hid (by have := hfl.out; simp; omega)
      clear wk smk hr100
      have y0 : ∀ W, Below w.heap.size w W → W.cell? ⟨b, off + k * 6, none⟩ = some (.int .i64 (l.getD k al0).kind) := fun W hW => (hW.cell (p := ⟨b, off + k * 6, none⟩) hlb).trans x0
      have y1 : ∀ W, Below w.heap.size w W → W.cell? ⟨b, off + k * 6 + 1, none⟩ = some (.int .i64 (l.getD k al0).sev) := fun W hW => (hW.cell (p := ⟨b, off + k * 6 + 1, none⟩) hlb).trans x1
      have y2 : ∀ W, Below w.heap.size w W → W.cell? ⟨b, off + k * 6 + 2, none⟩ = some (.string (l.getD k al0).fn) := fun W hW => (hW.cell (p := ⟨b, off + k * 6 + 2, none⟩) hlb).trans x2
      have y3 : ∀ W, Below w.heap.size w W → W.cell? ⟨b, off + k * 6 + 3, none⟩ = some (.string (l.getD k al0).file) := fun W hW => (hW.cell (p := ⟨b, off + k * 6 + 3, none⟩) hlb).trans x3
      have y4 : ∀ W, Below w.heap.size w W → W.cell? ⟨b, off + k * 6 + 4, none⟩ = some (.int .i64 (l.getD k al0).line) := fun W hW => (hW.cell (p := ⟨b, off + k * 6 + 4, none⟩) hlb).trans x4
      have y5 : ∀ W, Below w.heap.size w W → W.cell? ⟨b, off + k * 6 + 5, none⟩ = some (.string (l.getD k al0).expr) := fun W hW => (hW.cell (p := ⟨b, off + k * 6 + 5, none⟩) hlb).trans x5
      clear x0 x1 x2 x3 x4 x5
      generalize oneK (keyA (l.getD k al0)) (rankA l k) = R at *
      generalize rankA l k = r at *
      generalize l.getD k al0 = A at *
      obtain ⟨ak, av, af, ai, al, ax⟩ := A
      dsimp only at *
      have hst := Lib.hid (hB.out.drew)
      go_wp2
      refine wp_drawn_on (fun W => Below w.heap.size w W) (by kernel_rfl) (hst.out) (fun hHeld => ?_)
      refine wT 0 (v := ?v1) rfl (by kernel_rfl) (fun _ _ _ h => h) ?h1 (by assumption) ?r1
      case h1 => (intro w hSw; (try dsimp only at hSw); go_simp; try with_reducible rfl)
      refine wT 1 (v := ?v2) rfl (by kernel_rfl) (fun _ _ _ h => h) ?h2 (by assumption) ?r2
      case h2 => (intro w hSw; (try dsimp only at hSw); go_simp; try with_reducible rfl)
      refine wT 2 (v := ?v3) rfl (by kernel_rfl) (fun _ _ _ h => h) ?h3 (by assumption) ?r3
      case h3 => (intro w hSw; (try dsimp only at hSw); go_simp; try with_reducible rfl)
      refine wT 3 (v := ?v4) rfl (by kernel_rfl) (fun _ _ _ h => h) ?h4 (by assumption) ?r4
      case h4 => (intro w hSw; (try dsimp only at hSw); go_simp; try with_reducible rfl)
      refine wT 4 (v := ?v5) rfl (by kernel_rfl) (fun _ _ _ h => h) ?h5 (by assumption) ?r5
      case h5 => (intro w hSw; (try dsimp only at hSw); go_simp; try with_reducible rfl)
      refine wT 5 (v := ?v6) rfl (by kernel_rfl) (fun _ _ _ h => h) ?h6 (by assumption) ?r6
      case h6 => (intro w hSw; (try dsimp only at hSw); go_simp; try with_reducible rfl)
      refine wT 6 (v := ?v7) rfl (by kernel_rfl) (fun _ _ _ h => h) ?h7 (by assumption) ?r7
      case h7 => (intro w hSw; (try dsimp only at hSw); go_simp; try with_reducible rfl)
      try simp only [Act.put, List.setIfInBounds_toArray, List.set_cons_zero, List.set_cons_succ]
      refine wpAnyH_ready (rs := [7]) (by kernel_rfl) (by simp) ?_
      refine AllReadyH.cons (o := ⟨_, _, _, _, _, _⟩) rfl (fun K hK => ?_) AllReadyH.nil
      go_simp
      with_reducible refine (q1.out _ (hRO.out.below hHeld)).mono ?_
      rintro e g1 ⟨rfl, b1⟩
      go_simp
      refine hK.out _ _ (hHeld.trans (b1.mono hHeld.size)) (fun hHeld => ?_)
      clear hK K
      try simp only [Act.put, List.setIfInBounds_toArray, List.set_cons_zero, List.set_cons_succ]
      refine wpAnyH_ready (rs := [8]) (by kernel_rfl) (by simp) ?_
      refine AllReadyH.cons (o := ⟨_, _, _, _, _, _⟩) rfl (fun K hK => ?_) AllReadyH.nil
      go_simp
      with_reducible refine (q2.out _).mono ?_
      rintro e g2 ⟨rfl, b2⟩
      go_simp
      refine hK.out _ _ (hHeld.trans (b2.mono hHeld.size)) (fun hHeld => ?_)
      clear hK K
      try simp only [Act.put, List.setIfInBounds_toArray, List.set_cons_zero, List.set_cons_succ]
      refine wpAnyH_ready (rs := [9]) (by kernel_rfl) (by simp) ?_
      refine AllReadyH.cons (o := ⟨_, _, _, _, _, _⟩) rfl (fun K hK => ?_) AllReadyH.nil
      go_simp
      refine hK.out _ _ (hHeld.alloc hHeld.size _) (fun hHeld => ?_)
      clear hK K
      try simp only [Act.put, List.setIfInBounds_toArray, List.set_cons_zero, List.set_cons_succ]
      refine wpAnyH_ready (rs := [10]) (by kernel_rfl) (by simp) ?_
      refine AllReadyH.cons (o := ⟨_, _, _, _, _, _⟩) rfl (fun K hK => ?_) AllReadyH.nil
      have hOz := own_below (own_below (own_below hO.out (Below.fromDrew b1)) b2) (box_below g2 #[.int .u64 R] 36)
      refine wp_append_foot _ (.tmp 11) (.tmp 20) 55 rfl 36 i0 (.int .u64 0) 8 Tryz.underlying55 hi hz0 hz1 hz2 rfl .u64 u3 (FL.take k) (by rw [hFk.out]; exact own_zero hOz) _ _ [R] (sees_new .u64 g2 36 [R] _ rfl) 1 1 rfl rfl rfl (by rw [hFk.out]; unfold maxLen; simp only [List.length_singleton]; omega) (by rw [hFk.out]; simp only [List.length_singleton]; omega) ?_
      intro v' g3 own1 grow1 blk1
      have hg2 : Below w.heap.size w g3 := hHeld.grown grow1 hHeld.size (fun q hq => (hOz.lt q hq).1)
      have own2 : g3.ownsRow w.heap.size 36 1 v' (k + 1) (nums .u64 (FL.take (k + 1))) := (by
      rw [ht.out]
      have e1 : (FL.take k ++ [R]).length = k + 1 := (by rw [List.length_append, hFk.out]; rfl)
      rw [e1] at own1
      exact own_from own1 (fun q hq => (blk1.elim (fun h => (hOz.lt q (by rw [← h]; exact hq)).1) (fun h => (by rw [h] at hq; injection hq with hq; rw [← hq]; exact hHeld.size)))))
      refine hK.out _ _ (hg2) (fun hHeld => ?_)
      clear hK K
      refine wT 11 (v := ?v8) rfl (by kernel_rfl) (fun _ _ _ h => h) ?h8 (by assumption) ?r8
      case h8 => (intro w hSw; (try dsimp only at hSw); go_simp; try with_reducible rfl)
      try simp only [Act.put, List.setIfInBounds_toArray, List.set_cons_zero, List.set_cons_succ]
      refine wpAnyH_done (by kernel_rfl) ?_ _
      have own3 := Lib.hid own2
      have hg3 := Lib.hid hHeld
      clear own1 own2 grow1 blk1 hOz hg2 hHeld b1 b2 hO hB hst
      go_wp2
      go_roundw
      case rel => exact ⟨k + 1, by omega, by go_num, own3, hg3⟩
      case measure => simp [intOf]; omega
    · obtain rfl : k = n := by omega
      have hki : ¬ (k : Int) < (k : Int) := by omega
      have hO2 := hO.out
      rw [List.take_of_length_le (by rw [hfl.out]; exact Nat.le_refl _)] at hO2
      have hO3 := Lib.hid hO2
      clear hO2 hO
      go_wp2
      go_ret
      exact ⟨_, rfl, by rw [hfl.out]; exact hO3.out, hB.out⟩
end Go.Proofs.YtpchncpcckfghaaGreat
namespace Go.Proofs.YtpchncpcckfghaaGreat
open Go.RowKit
set_option linter.unusedVariables false
set_option linter.unusedSimpArgs false
theorem ofR_next (fs : List Int) (s : ByteArray) {k : Nat} (hk : k < fs.length) : ofR (fs.take (k + 1)) s = putL (ofR (fs.take k) s) ⟨fs.getD k 0, s⟩ := by
  unfold ofR
  have h := union_next [] (fs.map fun f => (⟨f, s⟩ : MkD)) (k := k) (by simpa using hk)
  rw [List.map_take, List.map_take, h]
  congr 1
  simp [List.getD, hk]
theorem ofR_len (fs : List Int) (s : ByteArray) : (ofR fs s).length ≤ fs.length := by
  have := union_len (fs.map fun f => (⟨f, s⟩ : MkD)) []
  unfold ofR
  simpa using this
set_option maxRecDepth 100000 in
set_option maxHeartbeats 4000000 in
theorem rbof_any (l : List AlD) (a : Option Addr) (n c : Nat) (s : ByteArray) (w : World) (h : RO alC w a n c l) (hW : ∀ s ∈ l, alW s) (hS : ∀ s ∈ l, smallA s) (hn : n ≤ 100) :
    Calls Tryz.prog 25 #[.slice a n c, .string s] w (MkGives w (ofR (fingA l) s)) := by
  have qo := Lib.hid (rfofs_any l a n c w h hW hS hn)
  have hfl := Lib.hid (show (fingA l).length = n by rw [fing_len, h.len])
  have hnx := Lib.hid (fun k hk => ofR_next (fingA l) s (k := k) hk)
  have hln := Lib.hid (fun k => ofR_len ((fingA l).take k) s)
  clear h hW hS
  generalize fingA l = FL at *
  go_enter Tryz.func25, Tryz.ntmps25
  go_wp2_with fail
  refine qo.out.mono ?_
  rintro e w1 hM
  obtain ⟨af, cf, rfl, hs, b1⟩ := hM.open n hfl.out
  have hSee := Lib.hid hs
  have B1 := Lib.hid b1
  have qp := Lib.hid (fun W v n L mf ms hn ho hb => rput_any w1 W v n L mf ms hn ho hb)
  have O0 : Hid (w1.ownsRow w1.heap.size 40 2 (.slice none 0 0) (ofR (FL.take 0) s).length (mkcells (ofR (FL.take 0) s))) := Lib.hid (own_nil _ _ _ _)
  clear hM hs b1 qo
  go_wp2
  go_loopw [5, 7] (fun v x wr => ∃ k : Nat, k ≤ n ∧ x = .int .i64 k ∧ Hid (wr.ownsRow w1.heap.size 40 2 v (ofR (FL.take k) s).length (mkcells (ofR (FL.take k) s))) ∧ Hid (Below w1.heap.size w1 wr)) (fun _ x _ => n - (intOf x).toNat)
  case atStart => exact ⟨0, Nat.zero_le _, rfl, O0, Lib.hid (Below.refl _ _)⟩
  case round =>
    clear O0
    obtain ⟨k, hk, rfl, hO, hB⟩ := hrel
    generalize wr = g0 at *
    by_cases hlt : k < n
    · have hki : (k : Int) < (n : Int) := by omega
      obtain ⟨b, off, rfl, hbl, x0⟩ := sees_num (hSee.out.below hB.out) (i := k) (by rw [hfl.out]; exact hlt)
      have hN := hnx.out k (by rw [hfl.out]; exact hlt)
      have hl : (ofR (FL.take k) s).length ≤ 90000 := by
        have := hln.out k
        have : (FL.take k).length ≤ k := by simp; omega
        omega
      generalize FL.getD k 0 = mf at *
      have q := Lib.hid (qp.out g0 _ _ (ofR (FL.take k) s) mf s hl hO.out hB.out)
      rw [← hN] at q
      clear hN hnx hln qp hO
      go_wp2_with fail
      refine q.out.mono ?_
      rintro e w9 ⟨v9, n9, rfl, h9, o9, b9⟩
      have O9 : Hid (w9.ownsRow w1.heap.size 40 2 v9 (ofR (FL.take (k + 1)) s).length (mkcells (ofR (FL.take (k + 1)) s))) := Lib.hid (by rw [← h9]; exact o9)
      have B9 := Lib.hid b9
      clear o9 b9 h9 q hB
      go_wp2
      go_roundw
      case rel => exact ⟨k + 1, by omega, by go_num, O9, B9⟩
      case measure => simp [intOf]; omega
    · have hki : ¬ (k : Int) < (n : Int) := by omega
      have ht : FL.take k = FL := List.take_of_length_le (by have := hfl.out; omega)
      rw [ht] at hO
      obtain ⟨a3, c3, rfl, hro⟩ := mro_own hO.out
      have R3 := Lib.hid hro
      clear hO hro ht hnx hln qp
      go_wp2
      exact bodyPost_ret (results_tmp rfl _ _ _) rfl ⟨a3, c3, rfl, R3.out, B1.out.trans (hB.out.mono B1.out.size)⟩
end Go.Proofs.YtpchncpcckfghaaGreat
