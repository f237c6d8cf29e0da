/-
  Words and walks under the law's proof.
-/
import Derived.Deep.QuietTactic
import Derived.BigQuiet
import Derived.Shelf.GgClosure.StringsIndexFuncTop
import Derived.Lib.RuneCount
import Derived.Shelf.Small.Strs
import Derived.Shelf.Strings.Search1
import Derived.Shelf.GgClosure.StringsIndexFunc
import Derived.Ground.GgwProg
import Derived.Shelf.GgClosure.StringsRunes
import Derived.Shelf.Strings.FuncGrows
import Derived.Test.YtknnjkhocbpohaaDoorProg
import Derived.Test.YtknnjkhocbpohaaDoorQN01
namespace Go.Proofs.YtknnjkhocbpohaaDoor
open Go.RowKit
set_option linter.unusedVariables false
set_option linter.unusedSimpArgs false
set_option maxRecDepth 100000 in
set_option maxHeartbeats 1000000 in
theorem qcmp_no (t : TmD) (h : ¬ (1 ≤ t.fld ∧ t.fld ≤ 10 ∧ 1 ≤ t.rel ∧ t.rel ≤ 5)) (w : World) : Calls Tryd.prog 33 #[.agg #[.int .i64 t.op, .int .i64 t.fld, .int .i64 t.rel, .int .i64 t.num, .string t.txt]] w (Gives (.bool (cmpOK t)) w) := by
  rw [cmp_no t h]
  obtain ⟨o, f, r, n, s⟩ := t
  dsimp only at h ⊢
  have b0 := Lib.hid (box_below w #[.int .i64 o, .int .i64 f, .int .i64 r, .int .i64 n, .string s] 38)
  by_cases h1 : f < 1
  · clear h
    go_enter Tryd.func33, Tryd.ntmps33
    go_wp2
    go_ret
    exact ⟨rfl, b0.out⟩
  by_cases h2 : 10 < f
  · clear h
    go_enter Tryd.func33, Tryd.ntmps33
    go_wp2
    go_ret
    exact ⟨rfl, b0.out⟩
  by_cases h3 : r < 1
  · clear h
    go_enter Tryd.func33, Tryd.ntmps33
    go_wp2
    go_ret
    exact ⟨rfl, b0.out⟩
  have h4 : 5 < r := by omega
  clear h
  go_enter Tryd.func33, Tryd.ntmps33
  go_wp2
  go_ret
  exact ⟨rfl, b0.out⟩
set_option maxRecDepth 100000 in
set_option maxHeartbeats 1000000 in
theorem qcmp_in (t : TmD) (q1 : ∀ W, Calls Tryd.prog 34 #[.string t.txt] W (Gives (.bool (qtextB t.txt)) W)) (q3 : t.txt.toList.isEmpty = qemptyB t.txt) (hs : t.txt.size ≤ maxLen) (h1 : 1 ≤ t.fld) (h2 : t.fld ≤ 10) (h3 : 1 ≤ t.rel) (h4 : t.rel ≤ 5) (w : World) (ht : ATab w) : Calls Tryd.prog 33 #[.agg #[.int .i64 t.op, .int .i64 t.fld, .int .i64 t.rel, .int .i64 t.num, .string t.txt]] w (Gives (.bool (cmpOK t)) w) := by
  have hR := Lib.hid (cmp_by t h1 h2 h3 h4)
  replace q1 := Lib.hid q1
  replace q3 := Lib.hid q3
  have q2 := Lib.hid (fun W => parse_any t.txt W hs)
  have hw := fW_range t.fld h1 h2
  obtain ⟨o, f, r, n, s⟩ := t
  dsimp only at *
  obtain ⟨k, rfl⟩ := Int.eq_ofNat_of_zero_le (show 0 ≤ f by omega)
  obtain ⟨j, rfl⟩ := Int.eq_ofNat_of_zero_le (show 0 ≤ r by omega)
  have c0 : w.cell? ⟨1, k * 3, none⟩ = some (.int .i64 (fW (k : Int))) := ht.fields _ (by omega)
  have c1 : w.cell? ⟨1, k * 3 + 1, none⟩ = some (.int .i64 (fLo (k : Int))) := ht.fields _ (by omega)
  have c2 : w.cell? ⟨1, k * 3 + 2, none⟩ = some (.int .i64 (fHi (k : Int))) := ht.fields _ (by omega)
  have c3 : w.cell? ⟨2, (fW (k : Int)).toNat * 6 + j, none⟩ = some (.bool (fRel (k : Int) (j : Int))) := ht.rels _ (by omega)
  have g0 := ht.size
  have g1 : (1 : Nat) < w.heap.size := by omega
  have g2 : (2 : Nat) < w.heap.size := by omega
  have hB2 := Lib.hid (fun (x y : Array Value) (t1 t2 : TypeId) m => Below.drewN (box2_below w x y t1 t2) m)
  have hE : Hid (fEnd ⟨o, k, j, n, s⟩ = if fW (k : Int) = 3 then qtextB s else if fW (k : Int) = 4 then decide ((parsed s).2 = 0) else qemptyB s) := Lib.hid rfl
  generalize cmpOK _ = R at *
  generalize fEnd _ = en at *
  generalize fRel (k : Int) (j : Int) = rb at *
  generalize fLo (k : Int) = lo at *
  generalize fHi (k : Int) = hi at *
  generalize fW (k : Int) = ww at *
  generalize qtextB s = tb at *
  generalize qemptyB s = eb at *
  clear ht g0
  have hj : (j : Int) < 6 := by omega
  have hk : (k : Int) < 11 := by omega
  have hwi : ww < 5 := by omega
  have hw0 : 0 ≤ ww := by omega
  cases rb with
  | false =>
    have hF : Hid (R = false) := Lib.hid (by rw [hR.out]; rfl)
    clear hR q1 q2 q3 hE
    go_enter Tryd.func33, Tryd.ntmps33
    go_wp2
    go_quiet (fail)
    go_wp2
    go_ret
    exact ⟨ret_bool hF.out.symm, hB2.out _ _ _ _ _⟩
  | true =>
  by_cases hlo : n < lo
  · have hF : Hid (R = false) := Lib.hid (by rw [hR.out, decide_eq_false (show ¬ lo ≤ n by omega)]; rfl)
    have hd : decide (n < lo) = true := decide_eq_true hlo
    clear hR q1 q2 q3 hE
    go_enter Tryd.func33, Tryd.ntmps33
    go_wp2
    go_quiet (fail)
    go_wp2
    go_ret
    exact ⟨ret_bool hF.out.symm, hB2.out _ _ _ _ _⟩
  have hd : decide (n < lo) = false := decide_eq_false hlo
  by_cases hhi : hi < n
  · have hF : Hid (R = false) := Lib.hid (by rw [hR.out, decide_eq_false (show ¬ n ≤ hi by omega)]; simp)
    have hd2 : decide (hi < n) = true := decide_eq_true hhi
    clear hR q1 q2 q3 hE
    go_enter Tryd.func33, Tryd.ntmps33
    go_wp2
    go_quiet (fail)
    go_wp2
    go_ret
    exact ⟨ret_bool hF.out.symm, hB2.out _ _ _ _ _⟩
  have hd2 : decide (hi < n) = false := decide_eq_false hhi
  have hF0 : Hid (R = en) := Lib.hid (by rw [hR.out, decide_eq_true (show lo ≤ n by omega), decide_eq_true (show n ≤ hi by omega)]; rfl)
  clear hR
  by_cases h3w : ww = 3
  · have hF : Hid (R = tb) := Lib.hid (by rw [hF0.out, hE.out, if_pos h3w])
    have e3 : (ww == 3) = true := by simpa using h3w
    have E3 := Lib.hid e3
    clear hE hF0 q2 q3 h3w e3
    go_enter Tryd.func33, Tryd.ntmps33
    go_wp2
    go_quiet (fail)
    have e3 := E3.out
    go_wp2_with fail
    refine (q1.out _).mono ?_
    rintro e u1 ⟨rfl, b1⟩
    go_wp2
    go_ret
    exact ⟨ret_bool hF.out.symm, (hB2.out _ _ _ _ _).trans (b1.mono (hB2.out _ _ _ _ _).size)⟩
  have e3 : (ww == 3) = false := by simpa using h3w
  by_cases h4w : ww = 4
  · have hF : Hid (R = decide ((parsed s).2 = 0)) := Lib.hid (by rw [hF0.out, hE.out, if_neg h3w, if_pos h4w])
    have e4 : (ww == 4) = true := by simpa using h4w
    generalize (parsed s).1 = P1 at *
    generalize (parsed s).2 = P2 at *
    have E3 := Lib.hid e3
    have E4 := Lib.hid e4
    clear hE hF0 q1 q3 h3w h4w e3 e4
    go_enter Tryd.func33, Tryd.ntmps33
    go_wp2
    go_quiet (fail)
    have e3 := E3.out
    have e4 := E4.out
    go_wp2_with fail
    refine (q2.out _).mono ?_
    rintro e u1 ⟨rfl, rfl⟩
    go_wp2
    go_ret
    exact ⟨ret_bool (by rw [hF.out]; rfl), hB2.out _ _ _ _ _⟩
  · have e4 : (ww == 4) = false := by simpa using h4w
    have hF : Hid (R = eb) := Lib.hid (by rw [hF0.out, hE.out, if_neg h3w, if_neg h4w])
    have h5 := q3.out
    have E3 := Lib.hid e3
    have E4 := Lib.hid e4
    clear hE hF0 q1 q2 q3 h3w h4w e3 e4
    go_enter Tryd.func33, Tryd.ntmps33
    go_wp2
    go_quiet (fail)
    have e3 := E3.out
    have e4 := E4.out
    go_wp2
    go_ret
    exact ⟨ret_bool (by rw [hF.out]; try exact h5), hB2.out _ _ _ _ _⟩
end Go.Proofs.YtknnjkhocbpohaaDoor
namespace Go.Proofs.YtknnjkhocbpohaaDoor
open Go.RowKit
set_option linter.unusedVariables false
set_option linter.unusedSimpArgs false
def TxtOK (s : ByteArray) : Prop := ∀ W, Calls Tryd.prog 34 #[.string s] W (Gives (.bool (qtextB s)) W)
theorem qcmp_any (t : TmD) (q1 : TxtOK t.txt) (q3 : t.txt.toList.isEmpty = qemptyB t.txt) (hs : t.txt.size ≤ maxLen) (w : World) (ht : ATab w) : Calls Tryd.prog 33 #[.agg #[.int .i64 t.op, .int .i64 t.fld, .int .i64 t.rel, .int .i64 t.num, .string t.txt]] w (Gives (.bool (cmpOK t)) w) := by
  by_cases h : 1 ≤ t.fld ∧ t.fld ≤ 10 ∧ 1 ≤ t.rel ∧ t.rel ≤ 5
  · exact qcmp_in t q1 q3 hs h.1 h.2.1 h.2.2.1 h.2.2.2 w ht
  · exact qcmp_no t h w
set_option maxRecDepth 100000 in
set_option maxHeartbeats 1000000 in
theorem qright_any (t : TmD) (q1 : TxtOK t.txt) (q3 : t.txt.toList.isEmpty = qemptyB t.txt) (hs : t.txt.size ≤ maxLen) (w : World) (ht : ATab w) : Calls Tryd.prog 31 #[.agg #[.int .i64 t.op, .int .i64 t.fld, .int .i64 t.rel, .int .i64 t.num, .string t.txt]] w (Gives (.bool (rightT t)) w) := by
  have qc := Lib.hid (fun W hW => qcmp_any t q1 q3 hs W hW)
  have hR : Hid (rightT t = if t.op = 2 then cmpOK t else (decide (1 ≤ t.op) && decide (t.op ≤ 5)) && plainB t) := Lib.hid rfl
  obtain ⟨o, f, r, n, s⟩ := t
  dsimp only at *
  have b0 := Lib.hid (box_below w #[.int .i64 o, .int .i64 f, .int .i64 r, .int .i64 n, .string s] 38)
  have hp : Hid (∀ W, (binOp BinOp.eql 38 (.agg #[.int .i64 o, .int .i64 f, .int .i64 r, .int .i64 n, .string s]) (.agg #[.int .i64 o, .int .i64 0, .int .i64 0, .int .i64 0, .string ⟨#[]⟩])).run Tryd.prog W = .ok (.bool (plainB ⟨o, f, r, n, s⟩)) W) := Lib.hid (fun W => tm_plain o f r n s W)
  generalize rightT _ = R at *
  generalize cmpOK _ = C at *
  generalize plainB _ = P at *
  clear q1 q3 hs
  by_cases h2 : o = 2
  · have hF : Hid (R = C) := Lib.hid (by rw [hR.out, if_pos h2])
    subst h2
    clear hR hp
    obtain ⟨U, hU⟩ : ∃ U, U = w.alloc (.cells #[.int .i64 2, .int .i64 f, .int .i64 r, .int .i64 n, .string s] 38) := ⟨_, rfl⟩
    have hb : Below w.heap.size w U := by rw [hU]; exact b0.out
    have q := Lib.hid (qc.out U (ht.on hb))
    have hU' := Lib.hid hU
    have hb' := Lib.hid hb
    clear hU hb b0 ht
    go_enter Tryd.func31, Tryd.ntmps31
    go_wp2_with fail
    rw [← hU'.out]
    refine q.out.mono ?_
    rintro e u1 ⟨rfl, b1⟩
    have hf := Lib.hid (hb'.out.trans (b1.mono hb'.out.size))
    clear b1
    go_wp2
    go_ret
    exact ⟨ret_bool hF.out.symm, hf.out⟩
  · have h2b : (o == 2) = false := by simpa using h2
    have hF : Hid (R = ((decide (1 ≤ o) && decide (o ≤ 5)) && P)) := Lib.hid (by rw [hR.out, if_neg h2])
    clear hR qc
    have hq := hp.out
    clear ht
    by_cases h1 : 1 ≤ o
    · by_cases h5 : o ≤ 5
      · have d1 : decide (1 ≤ o) = true := decide_eq_true h1
        have d2 : decide (o ≤ 5) = true := decide_eq_true h5
        clear h2
        go_enter Tryd.func31, Tryd.ntmps31
        go_wp2
        go_ret
        exact ⟨ret_bool (by rw [hF.out, d1, d2]; simp), b0.out⟩
      · have d1 : decide (1 ≤ o) = true := decide_eq_true h1
        have d2 : decide (o ≤ 5) = false := decide_eq_false h5
        clear h2
        go_enter Tryd.func31, Tryd.ntmps31
        go_wp2
        go_ret
        exact ⟨ret_bool (by rw [hF.out, d2]; simp), b0.out⟩
    · have d1 : decide (1 ≤ o) = false := decide_eq_false h1
      clear h2
      go_enter Tryd.func31, Tryd.ntmps31
      go_wp2
      go_ret
      exact ⟨ret_bool (by rw [hF.out, d1]; simp), b0.out⟩
set_option maxRecDepth 100000 in
theorem qrplain_any (t : TmD) (w : World) : Calls Tryd.prog 24 #[.agg #[.int .i64 t.op, .int .i64 t.fld, .int .i64 t.rel, .int .i64 t.num, .string t.txt]] w (Gives (.bool (plainB t)) w) := by
  obtain ⟨o, f, r, n, s⟩ := t
  dsimp only at *
  have b0 := Lib.hid (box_below w #[.int .i64 o, .int .i64 f, .int .i64 r, .int .i64 n, .string s] 38)
  have hp : (∀ W, (binOp BinOp.eql 38 (.agg #[.int .i64 o, .int .i64 f, .int .i64 r, .int .i64 n, .string s]) (.agg #[.int .i64 o, .int .i64 0, .int .i64 0, .int .i64 0, .string ⟨#[]⟩])).run Tryd.prog W = .ok (.bool (plainB ⟨o, f, r, n, s⟩)) W) := fun W => tm_plain o f r n s W
  generalize plainB _ = P at *
  go_enter Tryd.func24, Tryd.ntmps24
  go_wp2
  go_ret
  exact ⟨rfl, b0.out⟩
end Go.Proofs.YtknnjkhocbpohaaDoor
namespace Go.Proofs.YtknnjkhocbpohaaDoor
open Go.RowKit
set_option linter.unusedVariables false
theorem hexV_digit {c : Int} (h0 : 48 ≤ c) (h1 : c ≤ 57) : hexV c = c - 48 := by unfold hexV; rw [if_pos ⟨h0, h1⟩]
theorem hexV_letter {c : Int} (h0 : 97 ≤ c) (h1 : c ≤ 102) : hexV c = c - 87 := by unfold hexV; rw [if_neg (by omega), if_pos ⟨h0, h1⟩]
theorem hexV_none {c : Int} (h0 : ¬ (48 ≤ c ∧ c ≤ 57)) (h1 : ¬ (97 ≤ c ∧ c ≤ 102)) : hexV c = -1 := by unfold hexV; rw [if_neg h0, if_neg h1]
def parsedB (s : ByteArray) : Int × Bool := ((parsed s).1, (parsed s).2 == 0)
set_option maxHeartbeats 1600000 in
theorem refparse_any (s : ByteArray) (w : World) (hm : s.size ≤ maxLen) : Calls Tryd.prog 30 #[.string s] w fun e w' => e = .returned (.tuple #[.int .u64 (parsedB s).1, .bool (parsedB s).2]) ∧ w = w' := by
  unfold maxLen at hm
  by_cases hs : s.size = 16
  · have hlen := codes_length s
    have hbs := codes_bs s
    have hat := codes_at s
    have hok : 0 ≤ pl 0 (codes s) → parsedB s = (pl 0 (codes s), true) := fun h => by unfold parsedB; rw [parsed_ok hs h]; rfl
    have hno : pl 0 (codes s) = -1 → parsedB s = (0, false) := fun h => by unfold parsedB; rw [parsed_no h]; rfl
    generalize hL : codes s = L at *
    rw [hs] at hlen
    generalize hP : parsedB s = p at *
    have hok' := Lib.hid hok
    have hno' := Lib.hid hno
    have hlen' := Lib.hid hlen
    have hat' := Lib.hid hat
    have hs' := Lib.hid hs
    have hsl : 16 ≤ s.size := by omega
    have hsl2 : ((s.size : Int) != 16) = false := by rw [hs]; rfl
    have hsl3 : (s.size : Int) ≤ 16 := by omega
    clear hL hP hok hno hlen hs hat
    go_enter Tryd.func30, Tryd.ntmps30
    go_wp2
    go_loop [4, 5] (fun x i => ∃ (k : Nat) (t : Int), k ≤ 16 ∧ 0 ≤ t ∧ Hid (t < 16 ^ k) ∧ Hid (pl 0 L = pl t (L.drop k)) ∧ x = .int .u64 t ∧ i = .int .i64 k) (fun _ i => 16 - (intOf i).toNat)
    case atStart => exact ⟨0, 0, by omega, by omega, Lib.hid (by simp), Lib.hid rfl, rfl, rfl⟩
    case round =>
      obtain ⟨k, t, hk, ht0, ht1, hp, rfl, rfl⟩ := hrel
      by_cases hlt : k < 16
      · have hks : k < s.size := by omega
        have hc := hat'.out k hks
        have hr := hbs.at (by rw [hlen'.out]; exact hlt)
        have hd : L.drop k = L.getD k 0 :: L.drop (k + 1) := drop_cons (by rw [hlen'.out]; exact hlt)
        have hpw := pow16 hlt ht1.out
        generalize hcc : ((s[k]'hks).toNat : Int) = c at *
        rw [hc] at hr hd
        have hstep : ¬ hexV c < 0 → Hid (pl 0 L = pl (16 * t + hexV c) (L.drop (k + 1))) := fun hv => Lib.hid (by rw [hp.out, hd, pl_next hv])
        have ht2 : Hid (16 * t + hexV c < 16 ^ (k + 1)) := Lib.hid (by
          have := ht1.out
          have := hexV_lt c
          rw [Int.pow_succ]; omega)
        by_cases hD : 48 ≤ c ∧ c ≤ 57
        · rw [hexV_digit hD.1 hD.2] at hstep ht2
          have hst := hstep (by omega)
          have b1 := hpw.1
          clear hd hc hpw hstep
          go_wp2
          go_round
          case rel => exact ⟨k + 1, 16 * t + (c - 48), by omega, by omega, ht2, hst, rfl, by go_num⟩
          case measure => simp [intOf]; omega
        · by_cases hA : 97 ≤ c ∧ c ≤ 102
          · rw [hexV_letter hA.1 hA.2] at hstep ht2
            have hst := hstep (by omega)
            have b1 := hpw.1
            have hD1 : decide (c ≤ 57) = false := by simp; omega
            clear hd hc hpw hstep hD
            go_wp2
            go_round
            case rel => exact ⟨k + 1, 16 * t + (c - 87), by omega, by omega, ht2, hst, by go_num, by go_num⟩
            case measure => simp [intOf]; omega
          · have hfin := hno'.out (by rw [hp.out, hd, pl_bad (by rw [hexV_none hD hA]; omega)])
            have hfin' := Lib.hid hfin
            clear hfin hd hc hpw hstep ht2
            go_wp2
            all_goals go_ret2
            all_goals exact ⟨by rw [hfin'.out]; rfl, rfl⟩
      · have hfin := hok'.out (by rw [hp.out, List.drop_of_length_le (by rw [hlen'.out]; omega)]; exact ht0)
        rw [hp.out, List.drop_of_length_le (by rw [hlen'.out]; omega)] at hfin
        have hfin' := Lib.hid hfin
        clear hfin
        go_wp2
        go_ret2
        exact ⟨by rw [hfin'.out]; rfl, rfl⟩
  · have hfin : parsedB s = (0, false) := by unfold parsedB; rw [parsed_len hs]; rfl
    generalize parsedB s = p at *
    have hs2 : ((s.size : Int) != 16) = true := by rw [bne_iff_ne]; omega
    have hfin' := Lib.hid hfin
    clear hfin hs
    go_enter Tryd.func30, Tryd.ntmps30
    go_wp2
    go_ret2
    exact ⟨by rw [hfin'.out]; rfl, rfl⟩
end Go.Proofs.YtknnjkhocbpohaaDoor
namespace Go.Proofs.YtknnjkhocbpohaaDoor
open Go.RowKit
set_option linter.unusedVariables false
set_option linter.unusedSimpArgs false
def RTxtOK (s : ByteArray) : Prop := ∀ W, Calls Tryd.prog 29 #[.string s] W (Tells (.bool (qtextB s)) W)
set_option maxRecDepth 100000 in
set_option maxHeartbeats 2000000 in
theorem qrcmp_any (t : TmD) (q1 : RTxtOK t.txt) (q3 : t.txt.toList.isEmpty = qemptyB t.txt) (hs : t.txt.size ≤ maxLen) (w : World) : Calls Tryd.prog 23 #[.agg #[.int .i64 t.op, .int .i64 t.fld, .int .i64 t.rel, .int .i64 t.num, .string t.txt]] w (Gives (.bool (decide (t.op = 2) && cmpOK t)) w) := by
  have q1 := Lib.hid (fun W => q1 W)
  have q2 : Hid (∀ W, Calls Tryd.prog 30 #[.string t.txt] W fun e w' => e = .returned (.tuple #[.int .u64 (parsed t.txt).1, .bool ((parsed t.txt).2 == 0)]) ∧ W = w') := Lib.hid (fun W => refparse_any t.txt W hs)
  have hR : Hid (cmpOK t = if t.fld = 1 ∨ t.fld = 3 then decide (t.rel = 1) && (decide (1 ≤ t.num) && (decide (t.num ≤ 3) && qemptyB t.txt))
  else if t.fld = 2 then decide (t.rel = 1) && (decide (1 ≤ t.num) && (decide (t.num ≤ 2) && qemptyB t.txt))
  else if t.fld = 4 ∨ t.fld = 5 then (decide (t.rel = 1) || (decide (t.rel = 4) || decide (t.rel = 5))) && (decide (0 ≤ t.num) && (decide (t.num ≤ 1048576) && qemptyB t.txt))
  else if 6 ≤ t.fld ∧ t.fld ≤ 9 then (decide (1 ≤ t.rel) && decide (t.rel ≤ 3)) && (decide (t.num = 0) && qtextB t.txt)
  else if t.fld = 10 then decide (t.rel = 1) && (decide (t.num = 0) && decide ((parsed t.txt).2 = 0))
  else false) := Lib.hid rfl
  obtain ⟨o, f, r, n, s⟩ := t
  dsimp only at *
  have b0 := Lib.hid (box_below w #[.int .i64 o, .int .i64 f, .int .i64 r, .int .i64 n, .string s] 38)
  generalize cmpOK _ = C at *
  generalize qtextB s = tb at *
  generalize qemptyB s = eb at *
  by_cases ho : o = 2
  rotate_left
  · have e1 : (o == 2) = false := by simpa using ho
    have e2 : (o != 2) = true := by simpa using ho
    have hd : decide (o = 2) = false := decide_eq_false ho
    rw [hd]
    clear hR q1 q2 q3 hd
    go_enter Tryd.func23, Tryd.ntmps23
    go_wp2
    go_ret
    exact ⟨rfl, b0.out⟩
  subst ho
  rw [show (decide ((2 : Int) = 2) && C) = C by simp]
  by_cases n1 : f = 1
  · have hF : Hid (C = (decide (r = 1) && (decide (1 ≤ n) && (decide (n ≤ 3) && eb)))) := Lib.hid (by rw [hR.out, n1]; rfl)
    subst n1
    clear hR q1 q2
    go_enter Tryd.func23, Tryd.ntmps23
    go_wp2
    all_goals go_ret
    all_goals exact ⟨ret_bool (by rw [hF.out]; first | (simp [*]; done) | (simp [*]; omega) | (simp_all; done) | (simp_all; omega)), box_below _ _ _⟩
  by_cases n3 : f = 3
  · have hF : Hid (C = (decide (r = 1) && (decide (1 ≤ n) && (decide (n ≤ 3) && eb)))) := Lib.hid (by rw [hR.out, n3]; rfl)
    subst n3
    clear hR q1 q2
    go_enter Tryd.func23, Tryd.ntmps23
    go_wp2
    all_goals go_ret
    all_goals exact ⟨ret_bool (by rw [hF.out]; first | (simp [*]; done) | (simp [*]; omega) | (simp_all; done) | (simp_all; omega)), box_below _ _ _⟩
  by_cases n2 : f = 2
  · have hF : Hid (C = (decide (r = 1) && (decide (1 ≤ n) && (decide (n ≤ 2) && eb)))) := Lib.hid (by rw [hR.out, n2]; rfl)
    subst n2
    clear hR q1 q2
    go_enter Tryd.func23, Tryd.ntmps23
    go_wp2
    all_goals go_ret
    all_goals exact ⟨ret_bool (by rw [hF.out]; first | (simp [*]; done) | (simp [*]; omega) | (simp_all; done) | (simp_all; omega)), box_below _ _ _⟩
  by_cases n4 : f = 4
  · have hF : Hid (C = ((decide (r = 1) || (decide (r = 4) || decide (r = 5))) && (decide (0 ≤ n) && (decide (n ≤ 1048576) && eb)))) := Lib.hid (by rw [hR.out, n4]; rfl)
    subst n4
    clear hR q1 q2
    go_enter Tryd.func23, Tryd.ntmps23
    go_wp2
    all_goals go_ret
    all_goals exact ⟨ret_bool (by rw [hF.out]; first | (simp [*]; done) | (simp [*]; omega) | (simp_all; done) | (simp_all; omega)), box_below _ _ _⟩
  by_cases n5 : f = 5
  · have hF : Hid (C = ((decide (r = 1) || (decide (r = 4) || decide (r = 5))) && (decide (0 ≤ n) && (decide (n ≤ 1048576) && eb)))) := Lib.hid (by rw [hR.out, n5]; rfl)
    subst n5
    clear hR q1 q2
    go_enter Tryd.func23, Tryd.ntmps23
    go_wp2
    all_goals go_ret
    all_goals exact ⟨ret_bool (by rw [hF.out]; first | (simp [*]; done) | (simp [*]; omega) | (simp_all; done) | (simp_all; omega)), box_below _ _ _⟩
  by_cases n6 : f = 6
  · have hF : Hid (C = ((decide (1 ≤ r) && decide (r ≤ 3)) && (decide (n = 0) && tb))) := Lib.hid (by rw [hR.out, n6]; rfl)
    subst n6
    clear hR q2 q3
    cases hg : ((decide (1 ≤ r) && decide (r ≤ 3)) && decide (n = 0))
    · have hG : Hid (C = false) := Lib.hid (by rw [hF.out, ← Bool.and_assoc, hg]; rfl)
      have hc : ¬ (1 ≤ r ∧ r ≤ 3 ∧ n = 0) := by intro h; rw [decide_eq_true h.1, decide_eq_true h.2.1, decide_eq_true h.2.2] at hg; cases hg
      clear hF hg q1
      by_cases c1 : 1 ≤ r
      · by_cases c2 : r ≤ 3
        · have c3 : (n == 0) = false := by have : ¬ n = 0 := fun h => hc ⟨c1, c2, h⟩
                                           simpa using this
          have d1 : decide (1 ≤ r) = true := decide_eq_true c1
          have d2 : decide (r ≤ 3) = true := decide_eq_true c2
          clear hc
          go_enter Tryd.func23, Tryd.ntmps23
          go_wp2
          go_ret
          exact ⟨ret_bool hG.out.symm, b0.out⟩
        · have d1 : decide (1 ≤ r) = true := decide_eq_true c1
          have d2 : decide (r ≤ 3) = false := decide_eq_false c2
          clear hc
          go_enter Tryd.func23, Tryd.ntmps23
          go_wp2
          go_ret
          exact ⟨ret_bool (by rw [hG.out]), b0.out⟩
      · have d1 : decide (1 ≤ r) = false := decide_eq_false c1
        clear hc
        go_enter Tryd.func23, Tryd.ntmps23
        go_wp2
        go_ret
        exact ⟨ret_bool (by rw [hG.out]), b0.out⟩
    · have hG : Hid (C = tb) := Lib.hid (by rw [hF.out, ← Bool.and_assoc, hg]; simp)
      simp only [Bool.and_eq_true, decide_eq_true_eq] at hg
      obtain ⟨⟨c1, c2⟩, rfl⟩ := hg
      have d1 : decide (1 ≤ r) = true := decide_eq_true c1
      have d2 : decide (r ≤ 3) = true := decide_eq_true c2
      clear hF
      go_enter Tryd.func23, Tryd.ntmps23
      go_wp2_with fail
      refine (q1.out _).mono ?_
      rintro e u1 ⟨rfl, rfl⟩
      go_wp2
      go_ret
      exact ⟨ret_bool (by rw [hG.out]; try simp), b0.out⟩
  by_cases n7 : f = 7
  · have hF : Hid (C = ((decide (1 ≤ r) && decide (r ≤ 3)) && (decide (n = 0) && tb))) := Lib.hid (by rw [hR.out, n7]; rfl)
    subst n7
    clear hR q2 q3
    cases hg : ((decide (1 ≤ r) && decide (r ≤ 3)) && decide (n = 0))
    · have hG : Hid (C = false) := Lib.hid (by rw [hF.out, ← Bool.and_assoc, hg]; rfl)
      have hc : ¬ (1 ≤ r ∧ r ≤ 3 ∧ n = 0) := by intro h; rw [decide_eq_true h.1, decide_eq_true h.2.1, decide_eq_true h.2.2] at hg; cases hg
      clear hF hg q1
      by_cases c1 : 1 ≤ r
      · by_cases c2 : r ≤ 3
        · have c3 : (n == 0) = false := by have : ¬ n = 0 := fun h => hc ⟨c1, c2, h⟩
                                           simpa using this
          have d1 : decide (1 ≤ r) = true := decide_eq_true c1
          have d2 : decide (r ≤ 3) = true := decide_eq_true c2
          clear hc
          go_enter Tryd.func23, Tryd.ntmps23
          go_wp2
          go_ret
          exact ⟨ret_bool hG.out.symm, b0.out⟩
        · have d1 : decide (1 ≤ r) = true := decide_eq_true c1
          have d2 : decide (r ≤ 3) = false := decide_eq_false c2
          clear hc
          go_enter Tryd.func23, Tryd.ntmps23
          go_wp2
          go_ret
          exact ⟨ret_bool (by rw [hG.out]), b0.out⟩
      · have d1 : decide (1 ≤ r) = false := decide_eq_false c1
        clear hc
        go_enter Tryd.func23, Tryd.ntmps23
        go_wp2
        go_ret
        exact ⟨ret_bool (by rw [hG.out]), b0.out⟩
    · have hG : Hid (C = tb) := Lib.hid (by rw [hF.out, ← Bool.and_assoc, hg]; simp)
      simp only [Bool.and_eq_true, decide_eq_true_eq] at hg
      obtain ⟨⟨c1, c2⟩, rfl⟩ := hg
      have d1 : decide (1 ≤ r) = true := decide_eq_true c1
      have d2 : decide (r ≤ 3) = true := decide_eq_true c2
      clear hF
      go_enter Tryd.func23, Tryd.ntmps23
      go_wp2_with fail
      refine (q1.out _).mono ?_
      rintro e u1 ⟨rfl, rfl⟩
      go_wp2
      go_ret
      exact ⟨ret_bool (by rw [hG.out]; try simp), b0.out⟩
  by_cases n8 : f = 8
  · have hF : Hid (C = ((decide (1 ≤ r) && decide (r ≤ 3)) && (decide (n = 0) && tb))) := Lib.hid (by rw [hR.out, n8]; rfl)
    subst n8
    clear hR q2 q3
    cases hg : ((decide (1 ≤ r) && decide (r ≤ 3)) && decide (n = 0))
    · have hG : Hid (C = false) := Lib.hid (by rw [hF.out, ← Bool.and_assoc, hg]; rfl)
      have hc : ¬ (1 ≤ r ∧ r ≤ 3 ∧ n = 0) := by intro h; rw [decide_eq_true h.1, decide_eq_true h.2.1, decide_eq_true h.2.2] at hg; cases hg
      clear hF hg q1
      by_cases c1 : 1 ≤ r
      · by_cases c2 : r ≤ 3
        · have c3 : (n == 0) = false := by have : ¬ n = 0 := fun h => hc ⟨c1, c2, h⟩
                                           simpa using this
          have d1 : decide (1 ≤ r) = true := decide_eq_true c1
          have d2 : decide (r ≤ 3) = true := decide_eq_true c2
          clear hc
          go_enter Tryd.func23, Tryd.ntmps23
          go_wp2
          go_ret
          exact ⟨ret_bool hG.out.symm, b0.out⟩
        · have d1 : decide (1 ≤ r) = true := decide_eq_true c1
          have d2 : decide (r ≤ 3) = false := decide_eq_false c2
          clear hc
          go_enter Tryd.func23, Tryd.ntmps23
          go_wp2
          go_ret
          exact ⟨ret_bool (by rw [hG.out]), b0.out⟩
      · have d1 : decide (1 ≤ r) = false := decide_eq_false c1
        clear hc
        go_enter Tryd.func23, Tryd.ntmps23
        go_wp2
        go_ret
        exact ⟨ret_bool (by rw [hG.out]), b0.out⟩
    · have hG : Hid (C = tb) := Lib.hid (by rw [hF.out, ← Bool.and_assoc, hg]; simp)
      simp only [Bool.and_eq_true, decide_eq_true_eq] at hg
      obtain ⟨⟨c1, c2⟩, rfl⟩ := hg
      have d1 : decide (1 ≤ r) = true := decide_eq_true c1
      have d2 : decide (r ≤ 3) = true := decide_eq_true c2
      clear hF
      go_enter Tryd.func23, Tryd.ntmps23
      go_wp2_with fail
      refine (q1.out _).mono ?_
      rintro e u1 ⟨rfl, rfl⟩
      go_wp2
      go_ret
      exact ⟨ret_bool (by rw [hG.out]; try simp), b0.out⟩
  by_cases n9 : f = 9
  · have hF : Hid (C = ((decide (1 ≤ r) && decide (r ≤ 3)) && (decide (n = 0) && tb))) := Lib.hid (by rw [hR.out, n9]; rfl)
    subst n9
    clear hR q2 q3
    cases hg : ((decide (1 ≤ r) && decide (r ≤ 3)) && decide (n = 0))
    · have hG : Hid (C = false) := Lib.hid (by rw [hF.out, ← Bool.and_assoc, hg]; rfl)
      have hc : ¬ (1 ≤ r ∧ r ≤ 3 ∧ n = 0) := by intro h; rw [decide_eq_true h.1, decide_eq_true h.2.1, decide_eq_true h.2.2] at hg; cases hg
      clear hF hg q1
      by_cases c1 : 1 ≤ r
      · by_cases c2 : r ≤ 3
        · have c3 : (n == 0) = false := by have : ¬ n = 0 := fun h => hc ⟨c1, c2, h⟩
                                           simpa using this
          have d1 : decide (1 ≤ r) = true := decide_eq_true c1
          have d2 : decide (r ≤ 3) = true := decide_eq_true c2
          clear hc
          go_enter Tryd.func23, Tryd.ntmps23
          go_wp2
          go_ret
          exact ⟨ret_bool hG.out.symm, b0.out⟩
        · have d1 : decide (1 ≤ r) = true := decide_eq_true c1
          have d2 : decide (r ≤ 3) = false := decide_eq_false c2
          clear hc
          go_enter Tryd.func23, Tryd.ntmps23
          go_wp2
          go_ret
          exact ⟨ret_bool (by rw [hG.out]), b0.out⟩
      · have d1 : decide (1 ≤ r) = false := decide_eq_false c1
        clear hc
        go_enter Tryd.func23, Tryd.ntmps23
        go_wp2
        go_ret
        exact ⟨ret_bool (by rw [hG.out]), b0.out⟩
    · have hG : Hid (C = tb) := Lib.hid (by rw [hF.out, ← Bool.and_assoc, hg]; simp)
      simp only [Bool.and_eq_true, decide_eq_true_eq] at hg
      obtain ⟨⟨c1, c2⟩, rfl⟩ := hg
      have d1 : decide (1 ≤ r) = true := decide_eq_true c1
      have d2 : decide (r ≤ 3) = true := decide_eq_true c2
      clear hF
      go_enter Tryd.func23, Tryd.ntmps23
      go_wp2_with fail
      refine (q1.out _).mono ?_
      rintro e u1 ⟨rfl, rfl⟩
      go_wp2
      go_ret
      exact ⟨ret_bool (by rw [hG.out]; try simp), b0.out⟩
  by_cases n10 : f = 10
  · have hF : Hid (C = (decide (r = 1) && (decide (n = 0) && decide ((parsed s).2 = 0)))) := Lib.hid (by rw [hR.out, n10]; rfl)
    subst n10
    clear hR q1 q3
    generalize (parsed s).1 = P1 at *
    generalize (parsed s).2 = P2 at *
    cases hp : (P2 == 0)
    · have hF2 : Hid (C = false) := Lib.hid (by rw [hF.out, show decide (P2 = 0) = false from decide_eq_false (by simpa using hp)]; simp)
      rw [hp] at q2
      clear hF hp
      go_enter Tryd.func23, Tryd.ntmps23
      go_wp2_with fail
      refine (q2.out _).mono ?_
      rintro e u1 ⟨rfl, rfl⟩
      go_wp2
      all_goals go_ret
      all_goals exact ⟨ret_bool (by rw [hF2.out]; try simp), box_below _ _ _⟩
    · have hF2 : Hid (C = (decide (r = 1) && decide (n = 0))) := Lib.hid (by rw [hF.out, show decide (P2 = 0) = true from decide_eq_true (by simpa using hp)]; simp)
      rw [hp] at q2
      clear hF hp
      go_enter Tryd.func23, Tryd.ntmps23
      go_wp2_with fail
      refine (q2.out _).mono ?_
      rintro e u1 ⟨rfl, rfl⟩
      go_wp2
      all_goals go_ret
      all_goals exact ⟨ret_bool (by rw [hF2.out]; first | (simp [*]; done) | (simp [*]; omega) | (simp_all; done) | (simp_all; omega)), box_below _ _ _⟩
  have hF : Hid (C = false) := Lib.hid (by rw [hR.out, if_neg (by omega), if_neg (by omega), if_neg (by omega), if_neg (by omega), if_neg (by omega)])
  clear hR q1 q2 q3
  have x1 : (f == 1) = false := by simpa using n1
  have x2 : (f == 2) = false := by simpa using n2
  have x3 : (f == 3) = false := by simpa using n3
  have x4 : (f == 4) = false := by simpa using n4
  have x5 : (f == 5) = false := by simpa using n5
  have x6 : (f == 6) = false := by simpa using n6
  have x7 : (f == 7) = false := by simpa using n7
  have x8 : (f == 8) = false := by simpa using n8
  have x9 : (f == 9) = false := by simpa using n9
  have x10 : (f == 10) = false := by simpa using n10
  clear n1 n2 n3 n4 n5 n6 n7 n8 n9 n10
  go_enter Tryd.func23, Tryd.ntmps23
  go_wp2
  go_ret
  exact ⟨ret_bool hF.out.symm, b0.out⟩
end Go.Proofs.YtknnjkhocbpohaaDoor
namespace Go.Proofs.YtknnjkhocbpohaaDoor
open Go.RowKit
set_option linter.unusedVariables false
set_option linter.unusedSimpArgs false
def qoddN (r : Nat) : Bool := decide (r < 32) || decide (126 < r)
theorem qdec_low (s : ByteArray) (i : Nat) (h : (s.get! i).toNat < 128) : Utf8.decode s i = ((s.get! i).toNat, 1) := by
  unfold Utf8.decode
  simp only [Nat.add_zero]
  rw [if_pos h]
theorem qdec_high (s : ByteArray) (i : Nat) (h : ¬ (s.get! i).toNat < 128) : 128 ≤ (Utf8.decode s i).1 := by
  unfold Utf8.decode
  simp only [Nat.add_zero]
  rw [if_neg h]
  have e : Utf8.runeError = 65533 := rfl
  split
  · split
    · next hc => exact hc
    · rw [e]; omega
  · split
    · split
      · next hc => simp at hc; omega
      · rw [e]; omega
    · split
      · split
        · next hc => simp at hc; omega
        · rw [e]; omega
      · rw [e]; omega
theorem qidx_odd (s : ByteArray) : ∀ (f pos : Nat), s.size ≤ f + pos → (0 ≤ Lib.idxFuncFrom qoddN true s f pos ↔ ∃ j, pos ≤ j ∧ j < s.size ∧ qoddN (s.get! j).toNat = true)
  | 0, pos, h => by
    unfold Lib.idxFuncFrom
    exact ⟨fun h => by omega, fun ⟨j, h1, h2, _⟩ => by omega⟩
  | f + 1, pos, h => by
    unfold Lib.idxFuncFrom
    by_cases hp : pos < s.size
    · rw [if_pos hp]
      by_cases hb : (s.get! pos).toNat < 128
      · rw [qdec_low s pos hb]
        by_cases ho : qoddN (s.get! pos).toNat = true
        · rw [if_pos ho]
          exact ⟨fun _ => ⟨pos, Nat.le_refl _, hp, ho⟩, fun _ => by omega⟩
        · rw [if_neg ho, qidx_odd s f (pos + 1) (by omega)]
          constructor
          · rintro ⟨j, h1, h2, h3⟩; exact ⟨j, by omega, h2, h3⟩
          · rintro ⟨j, h1, h2, h3⟩
            refine ⟨j, ?_, h2, h3⟩
            rcases Nat.lt_or_ge pos j with h4 | h4
            · exact h4
            · have : j = pos := by omega
              subst this
              exact absurd h3 ho
      · have hd := qdec_high s pos hb
        have ho : qoddN (Utf8.decode s pos).1 = true := by simp [qoddN]; omega
        rw [if_pos ho]
        exact ⟨fun _ => ⟨pos, Nat.le_refl _, hp, by simp [qoddN]; omega⟩, fun _ => by omega⟩
    · rw [if_neg hp]
      exact ⟨fun h => by omega, fun ⟨j, h1, h2, _⟩ => by omega⟩
theorem qidx_all (s : ByteArray) : decide (0 ≤ Lib.idxFunc qoddN true s) = !((tbyt s).all fun c => decide (32 ≤ c.toNat) && decide (c.toNat ≤ 126)) := by
  have h := qidx_odd s s.size 0 (by omega)
  have e : ∀ j, j < s.size → s.get! j = (tbyt s).getD j 0 := by
    clear h
    intro j hj
    unfold tbyt
    have h2 : j < s.data.size := hj
    obtain ⟨bs⟩ := s
    show bs[j]! = bs.toList.getD j 0
    rw [getElem!_pos bs j h2]
    simp [List.getD, h2]
  unfold Lib.idxFunc
  rw [Bool.eq_iff_iff, decide_eq_true_eq, h]
  simp only [Bool.not_eq_true', List.all_eq_false]
  constructor
  · rintro ⟨j, _, h2, h3⟩
    refine ⟨s.get! j, ?_, ?_⟩
    · rw [e j h2]
      have h4 : j < (tbyt s).length := h2
      simp [List.getD, h4]
    · unfold qoddN at h3
      simp at h3 ⊢
      omega
  · rintro ⟨c, hc, h3⟩
    obtain ⟨j, hj, e2⟩ := List.getElem_of_mem hc
    refine ⟨j, Nat.zero_le _, hj, ?_⟩
    rw [e j hj]
    have e3 : (tbyt s).getD j 0 = c := by rw [← e2]; simp [List.getD, hj]
    rw [e3]
    unfold qoddN
    simp at h3 ⊢
    omega
end Go.Proofs.YtknnjkhocbpohaaDoor
namespace Go.Proofs
open Go.Shelf
def Tryd.laysGw17_ren : Go.Shelf.Ren := ⟨fun | 17 => 37 | 15 => 39 | 20 => 41 | n => n, fun | 9 => 9 | 23 => 65 | 4 => 4 | 3 => 3 | 0 => 0 | 21 => 21 | n => n, fun | n => n⟩
theorem Tryd.laysGw17 : Go.Proofs.LaysGw.n17 Tryd.prog Tryd.laysGw17_ren := {
  mixed := by kernel_rfl
  f15 := Tryd.func39.trans (congrArg some (by kernel_rfl))
  f17 := Tryd.func37.trans (congrArg some (by kernel_rfl))
  f20 := Tryd.func41.trans (congrArg some (by kernel_rfl))
  t0 := Tryd.underlying0
  a0 := Tryd.isAgg0
  z0 := Tryd.sizeOf0
  v0 := Tryd.zeroValue0
  i0 := by kernel_rfl
  t3 := Tryd.underlying3
  a3 := Tryd.isAgg3
  z3 := Tryd.sizeOf3
  v3 := Tryd.zeroValue3
  i3 := by kernel_rfl
  t4 := Tryd.underlying4
  a4 := Tryd.isAgg4
  z4 := Tryd.sizeOf4
  v4 := Tryd.zeroValue4
  i4 := by kernel_rfl
  t9 := Tryd.underlying9
  a9 := Tryd.isAgg9
  z9 := Tryd.sizeOf9
  v9 := Tryd.zeroValue9
  i9 := by kernel_rfl
  t21 := Tryd.underlying21
  a21 := Tryd.isAgg21
  z21 := Tryd.sizeOf21
  v21 := Tryd.zeroValue21
  i21 := by kernel_rfl
  t23 := Tryd.underlying65
  a23 := Tryd.isAgg65
  z23 := Tryd.sizeOf65
  v23 := Tryd.zeroValue65
  i23 := by kernel_rfl }
open Go.RowKit Go.Lib in
theorem Tryd.strings_ContainsFunc_grows (g : Nat) (lb : Array Value) (eg : ∀ args w, (callFunc g args).run Tryd.prog w = .ok (.enter g args) w) (p : Nat → Bool) (s : ByteArray) (w : World) (hp : PredGrows Tryd.prog g lb p w) :
    Calls Tryd.prog 37 #[.string s, .func (.func g) #[] lb] w fun e w' => e = .returned (.bool (decide (0 ≤ Lib.idxFunc p true s))) ∧ Below w.heap.size w w' := Any.strings_ContainsFunc_grows Tryd.laysGw17 g lb eg p s w hp
end Go.Proofs
namespace Go.Proofs.YtknnjkhocbpohaaDoor
open Go.RowKit
set_option linter.unusedVariables false
set_option linter.unusedSimpArgs false
set_option maxRecDepth 100000 in
theorem qodd_any (x : Nat) (w : World) : Calls Tryd.prog 36 #[.int .i32 (x : Int)] w (Tells (.bool (qoddN x)) w) := by
  have hR : Hid (qoddN x = (decide (x < 32) || decide (126 < x))) := Lib.hid rfl
  generalize qoddN x = R at *
  by_cases h1 : x < 32
  · have h1i : (x : Int) < 32 := by omega
    have hF : Hid (R = true) := Lib.hid (by rw [hR.out, decide_eq_true h1]; rfl)
    clear hR
    go_enter Tryd.func36, Tryd.ntmps36
    go_wp2
    go_ret
    exact ⟨ret_bool hF.out.symm, rfl⟩
  have h1i : ¬ (x : Int) < 32 := by omega
  by_cases h2 : 126 < x
  · have h2i : (126 : Int) < (x : Int) := by omega
    have hF : Hid (R = true) := Lib.hid (by rw [hR.out, decide_eq_false h1, decide_eq_true h2]; rfl)
    clear hR
    go_enter Tryd.func36, Tryd.ntmps36
    go_wp2
    go_ret
    exact ⟨ret_bool hF.out.symm, rfl⟩
  have h2i : ¬ (126 : Int) < (x : Int) := by omega
  have hF : Hid (R = false) := Lib.hid (by rw [hR.out, decide_eq_false h1, decide_eq_false h2]; rfl)
  clear hR
  go_enter Tryd.func36, Tryd.ntmps36
  go_wp2
  go_ret
  exact ⟨ret_bool hF.out.symm, rfl⟩
theorem qcontains (s : ByteArray) (w : World) : Calls Tryd.prog 37 #[.string s, .func (.func 36) #[] #[]] w (Gives (.bool (!((tbyt s).all fun c => decide (32 ≤ c.toNat) && decide (c.toNat ≤ 126)))) w) := by
  have h := Tryd.strings_ContainsFunc_grows 36 #[] (fun args w => by kernel_rfl) qoddN s w (fun W x hx hb => (qodd_any x W).mono (fun e w' h => ⟨h.1, by rw [← h.2]; exact Below.refl _ _⟩))
  rw [qidx_all s] at h
  exact h
theorem qstr_empty (s : ByteArray) : s.toList.isEmpty = qemptyB s := by
  unfold qemptyB
  rw [ByteArray.toList_eq]
  have : s.size = s.data.toList.length := by rw [Array.length_toList]; rfl
  rw [this]
  cases s.data.toList <;> simp
set_option maxRecDepth 100000 in
theorem qtext_any (s : ByteArray) (w : World) : Calls Tryd.prog 34 #[.string s] w (Gives (.bool (qtextB s)) w) := by
  have hR : Hid (qtextB s = (decide (s.size ≤ 128) && (tbyt s).all fun c => decide (32 ≤ c.toNat) && decide (c.toNat ≤ 126))) := Lib.hid rfl
  have q := Lib.hid (qcontains s w)
  generalize ((tbyt s).all fun c => decide (32 ≤ c.toNat) && decide (c.toNat ≤ 126)) = b at *
  generalize qtextB s = R at *
  by_cases h2 : s.size ≤ 128
  · have h2i : (s.size : Int) ≤ 128 := by omega
    have hF : Hid (R = b) := Lib.hid (by rw [hR.out, decide_eq_true h2]; rfl)
    clear hR
    go_enter Tryd.func34, Tryd.ntmps34
    go_wp2_with fail
    refine q.out.mono ?_
    rintro e w1 ⟨rfl, hb1⟩
    go_wp2
    go_ret
    exact ⟨ret_bool (by rw [hF.out]; try (cases b <;> rfl)), hb1⟩
  have h2i : ¬ (s.size : Int) ≤ 128 := by omega
  have hF : Hid (R = false) := Lib.hid (by rw [hR.out, decide_eq_false h2]; rfl)
  clear hR q
  go_enter Tryd.func34, Tryd.ntmps34
  go_wp2
  go_ret
  exact ⟨ret_bool hF.out.symm, Below.refl _ _⟩
def qexprB (s : ByteArray) : Bool := decide (1 ≤ s.size) && (decide (s.size ≤ 128) && (tbyt s).all fun c => decide (32 ≤ c.toNat) && decide (c.toNat ≤ 126))
theorem qtext_of (s : ByteArray) : qtextB s = (qemptyB s || qexprB s) := by
  by_cases h : s.size = 0
  · have e : s = eB := qempty_iff.1 (by unfold qemptyB; rw [decide_eq_true h])
    subst e
    decide
  · unfold qtextB qemptyB qexprB
    rw [decide_eq_false h, decide_eq_true (show 1 ≤ s.size by omega)]
    simp
theorem qall_nob {s : ByteArray} {q : UInt8 → Bool} {k : Nat} (hk : k < s.size) (h : q (s[k]'hk) = false) : (tbyt s).all q = false := by
  rw [List.all_eq_false]
  refine ⟨s[k]'hk, ?_, by rw [h]; simp⟩
  obtain ⟨⟨l⟩⟩ := s
  exact List.getElem_mem (l := l) hk
theorem qall_yesb {s : ByteArray} {q : UInt8 → Bool} (h : ∀ t (ht : t < s.size), q (s[t]'ht) = true) : (tbyt s).all q = true := by
  rw [List.all_eq_true]
  intro x hx
  obtain ⟨t, ht, rfl⟩ := List.getElem_of_mem hx
  exact h t ht
set_option maxRecDepth 100000 in
set_option maxHeartbeats 1000000 in
theorem qexpr_any (s : ByteArray) (hs : s.size ≤ 9223372036854775806) (w : World) : Calls Tryd.prog 32 #[.string s] w (Tells (.bool (qexprB s)) w) := by
  have hR : Hid (qexprB s = (decide (1 ≤ s.size) && (decide (s.size ≤ 128) && (tbyt s).all fun c => decide (32 ≤ c.toNat) && decide (c.toNat ≤ 126)))) := Lib.hid rfl
  have ns := Lib.hid (fun k hk h => qall_nob (s := s) (q := fun c => decide (32 ≤ c.toNat) && decide (c.toNat ≤ 126)) (k := k) hk h)
  have ys := Lib.hid (fun h => qall_yesb (s := s) (q := fun c => decide (32 ≤ c.toNat) && decide (c.toNat ≤ 126)) h)
  generalize ((tbyt s).all fun c => decide (32 ≤ c.toNat) && decide (c.toNat ≤ 126)) = b at *
  generalize qexprB s = R at *
  go_enter Tryd.func32, Tryd.ntmps32
  go_wp2
  go_loop [3] (fun x => ∃ k : Nat, k ≤ s.size ∧ x = .int .i64 k ∧ Hid (∀ t (ht : t < s.size), t < k → (decide (32 ≤ (s[t]'ht).toNat) && decide ((s[t]'ht).toNat ≤ 126)) = true)) (fun x => s.size - (intOf x).toNat)
  case atStart => exact ⟨0, Nat.zero_le _, rfl, Lib.hid (fun t _ ht => by omega)⟩
  case round =>
    obtain ⟨k, hk, rfl, hal⟩ := hrel
    by_cases hp : k < s.size
    · have hpi : (k : Int) < (s.size : Int) := by omega
      by_cases c1 : (s[k]'hp).toNat < 32
      · have c1i : ((s[k]'hp).toNat : Int) < 32 := by omega
        have hF : Hid (R = false) := Lib.hid (by rw [hR.out, ns.out k hp (by simp; omega)]; simp)
        clear hR ns ys hal
        go_wp2
        go_ret
        exact ⟨ret_bool hF.out.symm, rfl⟩
      have c1i : ¬ ((s[k]'hp).toNat : Int) < 32 := by omega
      by_cases c2 : 126 < (s[k]'hp).toNat
      · have c2i : (126 : Int) < ((s[k]'hp).toNat : Int) := by omega
        have hF : Hid (R = false) := Lib.hid (by rw [hR.out, ns.out k hp (by simp; omega)]; simp)
        clear hR ns ys hal
        go_wp2
        go_ret
        exact ⟨ret_bool hF.out.symm, rfl⟩
      have c2i : ¬ (126 : Int) < ((s[k]'hp).toNat : Int) := by omega
      have hn : Hid (∀ t (ht : t < s.size), t < k + 1 → (decide (32 ≤ (s[t]'ht).toNat) && decide ((s[t]'ht).toNat ≤ 126)) = true) := Lib.hid (fun t ht htk => by
        by_cases e : t = k
        · subst e; simp; omega
        · exact hal.out t ht (by omega))
      clear hal ns ys hR
      go_wp2
      go_round
      case rel => exact ⟨k + 1, by omega, by go_num, hn⟩
      case measure => simp [intOf]; omega
    · have hpi : ¬ (k : Int) < (s.size : Int) := by omega
      have hb : Hid (b = true) := Lib.hid (ys.out (fun t ht => hal.out t ht (by omega)))
      by_cases h0 : 1 ≤ s.size
      · have h0i : (1 : Int) ≤ (s.size : Int) := by omega
        have hF : Hid (R = decide ((s.size : Int) ≤ 128)) := Lib.hid (by rw [hR.out, hb.out, decide_eq_true h0]; simp; omega)
        clear hal ns ys hR hb
        by_cases h2 : (s.size : Int) ≤ 128
        · have hG : Hid (R = true) := Lib.hid (by rw [hF.out]; exact decide_eq_true h2)
          go_wp2
          go_ret
          exact ⟨ret_bool hG.out.symm, rfl⟩
        · have hG : Hid (R = false) := Lib.hid (by rw [hF.out]; exact decide_eq_false h2)
          go_wp2
          go_ret
          exact ⟨ret_bool hG.out.symm, rfl⟩
      · have h0i : ¬ (1 : Int) ≤ (s.size : Int) := by omega
        have hF : Hid (R = false) := Lib.hid (by rw [hR.out, decide_eq_false h0]; rfl)
        clear hal ns ys hR hb
        go_wp2
        go_ret
        exact ⟨ret_bool hF.out.symm, rfl⟩
set_option maxRecDepth 100000 in
theorem qrtext_any (s : ByteArray) (hs : s.size ≤ 9223372036854775806) (w : World) : Calls Tryd.prog 29 #[.string s] w (Tells (.bool (qtextB s)) w) := by
  have hR : Hid (qtextB s = (qemptyB s || qexprB s)) := Lib.hid (qtext_of s)
  have q := Lib.hid (qexpr_any s hs w)
  generalize qexprB s = b at *
  generalize qtextB s = R at *
  cases h : qemptyB s
  · have h3 := qstr_empty s
    rw [h] at h3
    have h4 : ¬ (s.toList = []) := by
      intro h
      rw [h] at h3
      simp at h3
    have hF : Hid (R = b) := Lib.hid (by rw [hR.out, h]; rfl)
    clear hR h
    go_enter Tryd.func29, Tryd.ntmps29
    go_wp2_with fail
    refine q.out.mono ?_
    rintro e w1 ⟨rfl, rfl⟩
    go_wp2
    go_ret
    exact ⟨ret_bool (by rw [hF.out]), rfl⟩
  · have hF : Hid (R = true) := Lib.hid (by rw [hR.out, h]; rfl)
    have e := qempty_iff.1 h
    unfold eB at e
    subst e
    clear hR q h
    go_enter Tryd.func29, Tryd.ntmps29
    go_wp2
    go_ret
    exact ⟨ret_bool hF.out.symm, rfl⟩
end Go.Proofs.YtknnjkhocbpohaaDoor
namespace Go.Proofs.YtknnjkhocbpohaaDoor
open Go.RowKit
set_option linter.unusedVariables false
set_option linter.unusedSimpArgs false
def tmS (t : TmD) : Prop := t.txt.size ≤ 9223372036854775806
theorem tmS_max {t : TmD} (h : tmS t) : t.txt.size ≤ maxLen := by unfold tmS at h; unfold maxLen; omega
theorem rtxt_ok {t : TmD} (h : tmS t) : RTxtOK t.txt := fun W => qrtext_any t.txt h W
theorem txt_ok (s : ByteArray) : TxtOK s := fun W => qtext_any s W
def TakeOK (N : Nat) : Prop := ∀ (w : World) (a : Option Addr) (n c : Nat) (l : List TmD), l.length < N → RO tmC w a n c l → (∀ t ∈ l, tmS t) → Calls Tryd.prog 10 #[.slice a n c] w (Gives (.tuple #[.int .i64 ((takeL l).1 : Int), .int .i64 ((takeL l).2 : Int)]) w)
set_option maxRecDepth 100000 in
theorem qrtake_nil (w : World) (a : Option Addr) (c : Nat) : Calls Tryd.prog 10 #[.slice a 0 c] w (Gives (.tuple #[.int .i64 0, .int .i64 0]) w) := by
  go_enter Tryd.func10, Tryd.ntmps10
  go_wp2
  go_ret2
  exact ⟨rfl, Below.refl _ _⟩
set_option maxRecDepth 100000 in
set_option maxHeartbeats 4000000 in
theorem qrtake_two (w : World) (a : Option Addr) (n c : Nat) (o f r k : Int) (s : ByteArray) (R : List TmD) (h : RO tmC w a n c (⟨o, f, r, k, s⟩ :: R)) (hs : ∀ t ∈ (⟨o, f, r, k, s⟩ : TmD) :: R, tmS t) (ho : o = 2) : Calls Tryd.prog 10 #[.slice a n c] w (Gives (.tuple #[.int .i64 ((takeL (⟨o, f, r, k, s⟩ :: R)).1 : Int), .int .i64 ((takeL (⟨o, f, r, k, s⟩ :: R)).2 : Int)]) w) := by
  have hlen := h.len
  simp only [List.length_cons] at hlen
  have hn0 : (0 : Int) < (n : Int) := by omega
  have hne : ((n : Int) == 0) = false := by simp; omega
  have hnn : (n == 0) = false := by simp; omega
  obtain ⟨b, off, rfl, hbl, x0, x1, x2, x3, x4⟩ := tm_at h (i := 0) (by omega)
  simp only [List.getD_cons_zero, Nat.zero_mul, Nat.add_zero] at x0 x1 x2 x3 x4
  have HS := hs _ List.mem_cons_self
  have qc := Lib.hid (fun W => qrcmp_any ⟨o, f, r, k, s⟩ (rtxt_ok HS) (qstr_empty s) (tmS_max HS) W)
  have qp := Lib.hid (fun W => qrplain_any ⟨o, f, r, k, s⟩ W)
  subst ho
  have hA : arity 2 = 0 := by decide
  cases hv : cmpOK ⟨2, f, r, k, s⟩
  · have hcv : (decide ((2 : Int) = 2) && cmpOK ⟨2, f, r, k, s⟩) = false := by rw [hv]; rfl
    have hr : rightT ⟨2, f, r, k, s⟩ = false := by unfold rightT; rw [if_pos rfl, hv]
    rw [takeL_cons, hr]
    clear hr hv hA
    have qc2 : Hid (∀ W, Calls Tryd.prog 23 #[.agg #[.int .i64 2, .int .i64 f, .int .i64 r, .int .i64 k, .string s]] W (Gives (.bool false) W)) := Lib.hid (fun W => by have q := qc.out W; dsimp only at q; rw [hcv] at q; exact q)
    clear qc hcv
    go_enter Tryd.func10, Tryd.ntmps10
    go_wp2_with fail
    refine (qc2.out _).mono ?_
    rintro e W1 ⟨rfl, b1⟩
    have z0 : W1.cell? ⟨b, off, none⟩ = some (.int .i64 2) := (b1.cell (p := ⟨b, off, none⟩) hbl).trans x0
    have z1 : W1.cell? ⟨b, off + 1, none⟩ = some (.int .i64 f) := (b1.cell (p := ⟨b, off + 1, none⟩) hbl).trans x1
    have z2 : W1.cell? ⟨b, off + 2, none⟩ = some (.int .i64 r) := (b1.cell (p := ⟨b, off + 2, none⟩) hbl).trans x2
    have z3 : W1.cell? ⟨b, off + 3, none⟩ = some (.int .i64 k) := (b1.cell (p := ⟨b, off + 3, none⟩) hbl).trans x3
    have z4 : W1.cell? ⟨b, off + 4, none⟩ = some (.string s) := (b1.cell (p := ⟨b, off + 4, none⟩) hbl).trans x4
    go_wp2
    go_ret2
    exact ⟨rfl, b1⟩
  · have hcv : (decide ((2 : Int) = 2) && cmpOK ⟨2, f, r, k, s⟩) = true := by rw [hv]; rfl
    have hr : rightT ⟨2, f, r, k, s⟩ = true := by unfold rightT; rw [if_pos rfl, hv]
    rw [takeL_cons, hr, if_pos rfl, if_pos hA]
    clear hr hv hA
    have qc2 : Hid (∀ W, Calls Tryd.prog 23 #[.agg #[.int .i64 2, .int .i64 f, .int .i64 r, .int .i64 k, .string s]] W (Gives (.bool true) W)) := Lib.hid (fun W => by have q := qc.out W; dsimp only at q; rw [hcv] at q; exact q)
    clear qc hcv
    go_enter Tryd.func10, Tryd.ntmps10
    go_wp2_with fail
    refine (qc2.out _).mono ?_
    rintro e W1 ⟨rfl, b1⟩
    have z0 : W1.cell? ⟨b, off, none⟩ = some (.int .i64 2) := (b1.cell (p := ⟨b, off, none⟩) hbl).trans x0
    have z1 : W1.cell? ⟨b, off + 1, none⟩ = some (.int .i64 f) := (b1.cell (p := ⟨b, off + 1, none⟩) hbl).trans x1
    have z2 : W1.cell? ⟨b, off + 2, none⟩ = some (.int .i64 r) := (b1.cell (p := ⟨b, off + 2, none⟩) hbl).trans x2
    have z3 : W1.cell? ⟨b, off + 3, none⟩ = some (.int .i64 k) := (b1.cell (p := ⟨b, off + 3, none⟩) hbl).trans x3
    have z4 : W1.cell? ⟨b, off + 4, none⟩ = some (.string s) := (b1.cell (p := ⟨b, off + 4, none⟩) hbl).trans x4
    go_wp2
    go_ret2
    exact ⟨rfl, b1⟩
set_option maxRecDepth 100000 in
set_option maxHeartbeats 4000000 in
theorem qrtake_no (w : World) (a : Option Addr) (n c : Nat) (o f r k : Int) (s : ByteArray) (R : List TmD) (h : RO tmC w a n c (⟨o, f, r, k, s⟩ :: R)) (hs : ∀ t ∈ (⟨o, f, r, k, s⟩ : TmD) :: R, tmS t) (ho : o ≠ 2) (hp : rightT ⟨o, f, r, k, s⟩ = false) : Calls Tryd.prog 10 #[.slice a n c] w (Gives (.tuple #[.int .i64 ((takeL (⟨o, f, r, k, s⟩ :: R)).1 : Int), .int .i64 ((takeL (⟨o, f, r, k, s⟩ :: R)).2 : Int)]) w) := by
  have hlen := h.len
  simp only [List.length_cons] at hlen
  have hn0 : (0 : Int) < (n : Int) := by omega
  have hne : ((n : Int) == 0) = false := by simp; omega
  have hnn : (n == 0) = false := by simp; omega
  obtain ⟨b, off, rfl, hbl, x0, x1, x2, x3, x4⟩ := tm_at h (i := 0) (by omega)
  simp only [List.getD_cons_zero, Nat.zero_mul, Nat.add_zero] at x0 x1 x2 x3 x4
  have HS := hs _ List.mem_cons_self
  have qc := Lib.hid (fun W => qrcmp_any ⟨o, f, r, k, s⟩ (rtxt_ok HS) (qstr_empty s) (tmS_max HS) W)
  have qp := Lib.hid (fun W => qrplain_any ⟨o, f, r, k, s⟩ W)
  have hcv : (decide (o = 2) && cmpOK ⟨o, f, r, k, s⟩) = false := by rw [decide_eq_false ho]; rfl
  rw [takeL_cons, hp]
  have hpl : 1 ≤ o → o ≤ 5 → plainB ⟨o, f, r, k, s⟩ = false := by
    intro h1 h5
    unfold rightT at hp
    rw [if_neg ho] at hp
    simpa [decide_eq_true h1, decide_eq_true h5] using hp
  by_cases hin : 1 ≤ o ∧ o ≤ 5
  · have hpv := hpl hin.1 hin.2
    have hoo : o = 1 ∨ o = 3 ∨ o = 4 ∨ o = 5 := by omega
    clear hp hpl hin ho
    rcases hoo with rfl | rfl | rfl | rfl
    · have qp2 : Hid (∀ W, Calls Tryd.prog 24 #[.agg #[.int .i64 1, .int .i64 f, .int .i64 r, .int .i64 k, .string s]] W (Gives (.bool false) W)) := Lib.hid (fun W => by have q := qp.out W; dsimp only at q; rw [hpv] at q; exact q)
      have qc2 : Hid (∀ W, Calls Tryd.prog 23 #[.agg #[.int .i64 1, .int .i64 f, .int .i64 r, .int .i64 k, .string s]] W (Gives (.bool false) W)) := Lib.hid (fun W => by have q := qc.out W; dsimp only at q; rw [hcv] at q; exact q)
      clear qc hcv
      go_enter Tryd.func10, Tryd.ntmps10
      go_wp2_with fail
      refine (qc2.out _).mono ?_
      rintro e W1 ⟨rfl, b1⟩
      have z0 : W1.cell? ⟨b, off, none⟩ = some (.int .i64 1) := (b1.cell (p := ⟨b, off, none⟩) hbl).trans x0
      have z1 : W1.cell? ⟨b, off + 1, none⟩ = some (.int .i64 f) := (b1.cell (p := ⟨b, off + 1, none⟩) hbl).trans x1
      have z2 : W1.cell? ⟨b, off + 2, none⟩ = some (.int .i64 r) := (b1.cell (p := ⟨b, off + 2, none⟩) hbl).trans x2
      have z3 : W1.cell? ⟨b, off + 3, none⟩ = some (.int .i64 k) := (b1.cell (p := ⟨b, off + 3, none⟩) hbl).trans x3
      have z4 : W1.cell? ⟨b, off + 4, none⟩ = some (.string s) := (b1.cell (p := ⟨b, off + 4, none⟩) hbl).trans x4
      clear qp hpv
      go_wp2_with fail
      refine (qp2.out _).mono ?_
      rintro e W2 ⟨rfl, b2⟩
      have B2 := b1.trans (b2.mono b1.size)
      have y0 : W2.cell? ⟨b, off, none⟩ = some (.int .i64 1) := (B2.cell (p := ⟨b, off, none⟩) hbl).trans x0
      go_wp2
      go_ret2
      exact ⟨rfl, B2⟩
    · have qp2 : Hid (∀ W, Calls Tryd.prog 24 #[.agg #[.int .i64 3, .int .i64 f, .int .i64 r, .int .i64 k, .string s]] W (Gives (.bool false) W)) := Lib.hid (fun W => by have q := qp.out W; dsimp only at q; rw [hpv] at q; exact q)
      have qc2 : Hid (∀ W, Calls Tryd.prog 23 #[.agg #[.int .i64 3, .int .i64 f, .int .i64 r, .int .i64 k, .string s]] W (Gives (.bool false) W)) := Lib.hid (fun W => by have q := qc.out W; dsimp only at q; rw [hcv] at q; exact q)
      clear qc hcv
      go_enter Tryd.func10, Tryd.ntmps10
      go_wp2_with fail
      refine (qc2.out _).mono ?_
      rintro e W1 ⟨rfl, b1⟩
      have z0 : W1.cell? ⟨b, off, none⟩ = some (.int .i64 3) := (b1.cell (p := ⟨b, off, none⟩) hbl).trans x0
      have z1 : W1.cell? ⟨b, off + 1, none⟩ = some (.int .i64 f) := (b1.cell (p := ⟨b, off + 1, none⟩) hbl).trans x1
      have z2 : W1.cell? ⟨b, off + 2, none⟩ = some (.int .i64 r) := (b1.cell (p := ⟨b, off + 2, none⟩) hbl).trans x2
      have z3 : W1.cell? ⟨b, off + 3, none⟩ = some (.int .i64 k) := (b1.cell (p := ⟨b, off + 3, none⟩) hbl).trans x3
      have z4 : W1.cell? ⟨b, off + 4, none⟩ = some (.string s) := (b1.cell (p := ⟨b, off + 4, none⟩) hbl).trans x4
      clear qp hpv
      go_wp2_with fail
      refine (qp2.out _).mono ?_
      rintro e W2 ⟨rfl, b2⟩
      have B2 := b1.trans (b2.mono b1.size)
      have y0 : W2.cell? ⟨b, off, none⟩ = some (.int .i64 3) := (B2.cell (p := ⟨b, off, none⟩) hbl).trans x0
      go_wp2
      go_ret2
      exact ⟨rfl, B2⟩
    · have qp2 : Hid (∀ W, Calls Tryd.prog 24 #[.agg #[.int .i64 4, .int .i64 f, .int .i64 r, .int .i64 k, .string s]] W (Gives (.bool false) W)) := Lib.hid (fun W => by have q := qp.out W; dsimp only at q; rw [hpv] at q; exact q)
      have qc2 : Hid (∀ W, Calls Tryd.prog 23 #[.agg #[.int .i64 4, .int .i64 f, .int .i64 r, .int .i64 k, .string s]] W (Gives (.bool false) W)) := Lib.hid (fun W => by have q := qc.out W; dsimp only at q; rw [hcv] at q; exact q)
      clear qc hcv
      go_enter Tryd.func10, Tryd.ntmps10
      go_wp2_with fail
      refine (qc2.out _).mono ?_
      rintro e W1 ⟨rfl, b1⟩
      have z0 : W1.cell? ⟨b, off, none⟩ = some (.int .i64 4) := (b1.cell (p := ⟨b, off, none⟩) hbl).trans x0
      have z1 : W1.cell? ⟨b, off + 1, none⟩ = some (.int .i64 f) := (b1.cell (p := ⟨b, off + 1, none⟩) hbl).trans x1
      have z2 : W1.cell? ⟨b, off + 2, none⟩ = some (.int .i64 r) := (b1.cell (p := ⟨b, off + 2, none⟩) hbl).trans x2
      have z3 : W1.cell? ⟨b, off + 3, none⟩ = some (.int .i64 k) := (b1.cell (p := ⟨b, off + 3, none⟩) hbl).trans x3
      have z4 : W1.cell? ⟨b, off + 4, none⟩ = some (.string s) := (b1.cell (p := ⟨b, off + 4, none⟩) hbl).trans x4
      clear qp hpv
      go_wp2_with fail
      refine (qp2.out _).mono ?_
      rintro e W2 ⟨rfl, b2⟩
      have B2 := b1.trans (b2.mono b1.size)
      have y0 : W2.cell? ⟨b, off, none⟩ = some (.int .i64 4) := (B2.cell (p := ⟨b, off, none⟩) hbl).trans x0
      go_wp2
      go_ret2
      exact ⟨rfl, B2⟩
    · have qp2 : Hid (∀ W, Calls Tryd.prog 24 #[.agg #[.int .i64 5, .int .i64 f, .int .i64 r, .int .i64 k, .string s]] W (Gives (.bool false) W)) := Lib.hid (fun W => by have q := qp.out W; dsimp only at q; rw [hpv] at q; exact q)
      have qc2 : Hid (∀ W, Calls Tryd.prog 23 #[.agg #[.int .i64 5, .int .i64 f, .int .i64 r, .int .i64 k, .string s]] W (Gives (.bool false) W)) := Lib.hid (fun W => by have q := qc.out W; dsimp only at q; rw [hcv] at q; exact q)
      clear qc hcv
      go_enter Tryd.func10, Tryd.ntmps10
      go_wp2_with fail
      refine (qc2.out _).mono ?_
      rintro e W1 ⟨rfl, b1⟩
      have z0 : W1.cell? ⟨b, off, none⟩ = some (.int .i64 5) := (b1.cell (p := ⟨b, off, none⟩) hbl).trans x0
      have z1 : W1.cell? ⟨b, off + 1, none⟩ = some (.int .i64 f) := (b1.cell (p := ⟨b, off + 1, none⟩) hbl).trans x1
      have z2 : W1.cell? ⟨b, off + 2, none⟩ = some (.int .i64 r) := (b1.cell (p := ⟨b, off + 2, none⟩) hbl).trans x2
      have z3 : W1.cell? ⟨b, off + 3, none⟩ = some (.int .i64 k) := (b1.cell (p := ⟨b, off + 3, none⟩) hbl).trans x3
      have z4 : W1.cell? ⟨b, off + 4, none⟩ = some (.string s) := (b1.cell (p := ⟨b, off + 4, none⟩) hbl).trans x4
      clear qp hpv
      go_wp2_with fail
      refine (qp2.out _).mono ?_
      rintro e W2 ⟨rfl, b2⟩
      have B2 := b1.trans (b2.mono b1.size)
      have y0 : W2.cell? ⟨b, off, none⟩ = some (.int .i64 5) := (B2.cell (p := ⟨b, off, none⟩) hbl).trans x0
      go_wp2
      go_ret2
      exact ⟨rfl, B2⟩
  · have m1 : (o == 1) = false := by simp; omega
    have m3 : (o == 3) = false := by simp; omega
    have m4 : (o == 4) = false := by simp; omega
    have m5 : (o == 5) = false := by simp; omega
    clear hp hpl hin ho qp
    have qc2 : Hid (∀ W, Calls Tryd.prog 23 #[.agg #[.int .i64 o, .int .i64 f, .int .i64 r, .int .i64 k, .string s]] W (Gives (.bool false) W)) := Lib.hid (fun W => by have q := qc.out W; dsimp only at q; rw [hcv] at q; exact q)
    clear qc hcv
    go_enter Tryd.func10, Tryd.ntmps10
    go_wp2_with fail
    refine (qc2.out _).mono ?_
    rintro e W1 ⟨rfl, b1⟩
    have z0 : W1.cell? ⟨b, off, none⟩ = some (.int .i64 o) := (b1.cell (p := ⟨b, off, none⟩) hbl).trans x0
    have z1 : W1.cell? ⟨b, off + 1, none⟩ = some (.int .i64 f) := (b1.cell (p := ⟨b, off + 1, none⟩) hbl).trans x1
    have z2 : W1.cell? ⟨b, off + 2, none⟩ = some (.int .i64 r) := (b1.cell (p := ⟨b, off + 2, none⟩) hbl).trans x2
    have z3 : W1.cell? ⟨b, off + 3, none⟩ = some (.int .i64 k) := (b1.cell (p := ⟨b, off + 3, none⟩) hbl).trans x3
    have z4 : W1.cell? ⟨b, off + 4, none⟩ = some (.string s) := (b1.cell (p := ⟨b, off + 4, none⟩) hbl).trans x4
    go_wp2
    go_ret2
    exact ⟨rfl, b1⟩
set_option maxRecDepth 100000 in
set_option maxHeartbeats 4000000 in
theorem qrtake_all (w : World) (a : Option Addr) (n c : Nat) (o f r k : Int) (s : ByteArray) (R : List TmD) (h : RO tmC w a n c (⟨o, f, r, k, s⟩ :: R)) (hs : ∀ t ∈ (⟨o, f, r, k, s⟩ : TmD) :: R, tmS t) (ho : o = 1) (hp : rightT ⟨o, f, r, k, s⟩ = true) : Calls Tryd.prog 10 #[.slice a n c] w (Gives (.tuple #[.int .i64 ((takeL (⟨o, f, r, k, s⟩ :: R)).1 : Int), .int .i64 ((takeL (⟨o, f, r, k, s⟩ :: R)).2 : Int)]) w) := by
  have hlen := h.len
  simp only [List.length_cons] at hlen
  have hn0 : (0 : Int) < (n : Int) := by omega
  have hne : ((n : Int) == 0) = false := by simp; omega
  have hnn : (n == 0) = false := by simp; omega
  obtain ⟨b, off, rfl, hbl, x0, x1, x2, x3, x4⟩ := tm_at h (i := 0) (by omega)
  simp only [List.getD_cons_zero, Nat.zero_mul, Nat.add_zero] at x0 x1 x2 x3 x4
  have HS := hs _ List.mem_cons_self
  have qc := Lib.hid (fun W => qrcmp_any ⟨o, f, r, k, s⟩ (rtxt_ok HS) (qstr_empty s) (tmS_max HS) W)
  have qp := Lib.hid (fun W => qrplain_any ⟨o, f, r, k, s⟩ W)
  subst ho
  have hcv : (decide ((1 : Int) = 2) && cmpOK ⟨1, f, r, k, s⟩) = false := by simp
  have hA : arity 1 = 0 := by decide
  have hpv : plainB ⟨1, f, r, k, s⟩ = true := by
    unfold rightT at hp
    rw [if_neg (show ¬ ((1 : Int) = 2) by decide)] at hp
    simpa using hp
  rw [takeL_cons, hp, if_pos rfl, if_pos hA]
  clear hp hA
  have qp2 : Hid (∀ W, Calls Tryd.prog 24 #[.agg #[.int .i64 1, .int .i64 f, .int .i64 r, .int .i64 k, .string s]] W (Gives (.bool true) W)) := Lib.hid (fun W => by have q := qp.out W; dsimp only at q; rw [hpv] at q; exact q)
  have qc2 : Hid (∀ W, Calls Tryd.prog 23 #[.agg #[.int .i64 1, .int .i64 f, .int .i64 r, .int .i64 k, .string s]] W (Gives (.bool false) W)) := Lib.hid (fun W => by have q := qc.out W; dsimp only at q; rw [hcv] at q; exact q)
  clear qc hcv
  go_enter Tryd.func10, Tryd.ntmps10
  go_wp2_with fail
  refine (qc2.out _).mono ?_
  rintro e W1 ⟨rfl, b1⟩
  have z0 : W1.cell? ⟨b, off, none⟩ = some (.int .i64 1) := (b1.cell (p := ⟨b, off, none⟩) hbl).trans x0
  have z1 : W1.cell? ⟨b, off + 1, none⟩ = some (.int .i64 f) := (b1.cell (p := ⟨b, off + 1, none⟩) hbl).trans x1
  have z2 : W1.cell? ⟨b, off + 2, none⟩ = some (.int .i64 r) := (b1.cell (p := ⟨b, off + 2, none⟩) hbl).trans x2
  have z3 : W1.cell? ⟨b, off + 3, none⟩ = some (.int .i64 k) := (b1.cell (p := ⟨b, off + 3, none⟩) hbl).trans x3
  have z4 : W1.cell? ⟨b, off + 4, none⟩ = some (.string s) := (b1.cell (p := ⟨b, off + 4, none⟩) hbl).trans x4
  clear qp hpv
  go_wp2_with fail
  refine (qp2.out _).mono ?_
  rintro e W2 ⟨rfl, b2⟩
  have B2 := b1.trans (b2.mono b1.size)
  have y0 : W2.cell? ⟨b, off, none⟩ = some (.int .i64 1) := (B2.cell (p := ⟨b, off, none⟩) hbl).trans x0
  go_wp2
  go_ret2
  exact ⟨rfl, B2⟩
set_option maxRecDepth 100000 in
set_option maxHeartbeats 4000000 in
theorem qrtake_not (w : World) (a : Option Addr) (n c : Nat) (o f r k : Int) (s : ByteArray) (R : List TmD) (h : RO tmC w a n c (⟨o, f, r, k, s⟩ :: R)) (hs : ∀ t ∈ (⟨o, f, r, k, s⟩ : TmD) :: R, tmS t) (hN : TakeOK (R.length + 1)) (ho : o = 3) (hp : rightT ⟨o, f, r, k, s⟩ = true) : Calls Tryd.prog 10 #[.slice a n c] w (Gives (.tuple #[.int .i64 ((takeL (⟨o, f, r, k, s⟩ :: R)).1 : Int), .int .i64 ((takeL (⟨o, f, r, k, s⟩ :: R)).2 : Int)]) w) := by
  have hlen := h.len
  simp only [List.length_cons] at hlen
  have hn0 : (0 : Int) < (n : Int) := by omega
  have hne : ((n : Int) == 0) = false := by simp; omega
  have hnn : (n == 0) = false := by simp; omega
  obtain ⟨b, off, rfl, hbl, x0, x1, x2, x3, x4⟩ := tm_at h (i := 0) (by omega)
  simp only [List.getD_cons_zero, Nat.zero_mul, Nat.add_zero] at x0 x1 x2 x3 x4
  have HS := hs _ List.mem_cons_self
  have qc := Lib.hid (fun W => qrcmp_any ⟨o, f, r, k, s⟩ (rtxt_ok HS) (qstr_empty s) (tmS_max HS) W)
  have qp := Lib.hid (fun W => qrplain_any ⟨o, f, r, k, s⟩ W)
  subst ho
  have hcv : (decide ((3 : Int) = 2) && cmpOK ⟨3, f, r, k, s⟩) = false := by simp
  have hA : arity 3 = 1 := by decide
  have hpv : plainB ⟨3, f, r, k, s⟩ = true := by
    unfold rightT at hp
    rw [if_neg (show ¬ ((3 : Int) = 2) by decide)] at hp
    simpa using hp
  have hall := Lib.hid (fun g => take_all (t := ⟨3, f, r, k, s⟩) (r := R) hp (by rw [hA]; exact g))
  have hnone := Lib.hid (fun (i : Nat) (hi : i < 1) g z => take_none (t := ⟨3, f, r, k, s⟩) (r := R) (i := i) (by rw [hA]; exact hi) g z)
  have hst := Lib.hid (fun i => steps_le (⟨3, f, r, k, s⟩ : TmD) R i)
  have hsp := Lib.hid (fun i => steps_pos ((⟨3, f, r, k, s⟩ : TmD) :: R) i)
  have hsd := Lib.hid (fun i => steps_deep (⟨3, f, r, k, s⟩ : TmD) R i)
  have hgn := Lib.hid (fun (i : Nat) g z => goodU_next (l := (⟨3, f, r, k, s⟩ : TmD) :: R) (i := i) g z)
  have hss : Hid (∀ i, stepsL ((⟨3, f, r, k, s⟩ : TmD) :: R) (i + 1) = ((stepsL ((⟨3, f, r, k, s⟩ : TmD) :: R) i).1 + (takeL (((⟨3, f, r, k, s⟩ : TmD) :: R).drop (stepsL ((⟨3, f, r, k, s⟩ : TmD) :: R) i).1)).1, max (stepsL ((⟨3, f, r, k, s⟩ : TmD) :: R) i).2 (takeL (((⟨3, f, r, k, s⟩ : TmD) :: R).drop (stepsL ((⟨3, f, r, k, s⟩ : TmD) :: R) i).1)).2)) := Lib.hid (fun i => rfl)
  have hs0 : Hid (stepsL ((⟨3, f, r, k, s⟩ : TmD) :: R) 0 = (1, 0)) := Lib.hid rfl
  have hg0 : Hid (goodU ((⟨3, f, r, k, s⟩ : TmD) :: R) 0) := Lib.hid (fun j hj => by omega)
  rw [hA] at hall
  have hmx : (n : Int) ≤ 9223372036854775807 := by have := h.max'; omega
  have hLn : Hid (((⟨3, f, r, k, s⟩ : TmD) :: R).length = n) := Lib.hid h.len.symm
  have hLR : Hid (R.length + 1 = n) := Lib.hid hlen.symm
  have RL := Lib.hid h
  have HSS := Lib.hid hs
  have HN := Lib.hid hN
  clear hp h hs hN hlen hA HS
  generalize hL : ((⟨3, f, r, k, s⟩ : TmD) :: R) = L at *
  generalize hTT : takeL L = TT at *
  have hL' := Lib.hid hL
  have hTT' := Lib.hid hTT
  clear hL hTT
  have qp2 : Hid (∀ W, Calls Tryd.prog 24 #[.agg #[.int .i64 3, .int .i64 f, .int .i64 r, .int .i64 k, .string s]] W (Gives (.bool true) W)) := Lib.hid (fun W => by have q := qp.out W; dsimp only at q; rw [hpv] at q; exact q)
  have qc2 : Hid (∀ W, Calls Tryd.prog 23 #[.agg #[.int .i64 3, .int .i64 f, .int .i64 r, .int .i64 k, .string s]] W (Gives (.bool false) W)) := Lib.hid (fun W => by have q := qc.out W; dsimp only at q; rw [hcv] at q; exact q)
  clear qc hcv
  go_enter Tryd.func10, Tryd.ntmps10
  go_wp2_with fail
  refine (qc2.out _).mono ?_
  rintro e W1 ⟨rfl, b1⟩
  have z0 : W1.cell? ⟨b, off, none⟩ = some (.int .i64 3) := (b1.cell (p := ⟨b, off, none⟩) hbl).trans x0
  have z1 : W1.cell? ⟨b, off + 1, none⟩ = some (.int .i64 f) := (b1.cell (p := ⟨b, off + 1, none⟩) hbl).trans x1
  have z2 : W1.cell? ⟨b, off + 2, none⟩ = some (.int .i64 r) := (b1.cell (p := ⟨b, off + 2, none⟩) hbl).trans x2
  have z3 : W1.cell? ⟨b, off + 3, none⟩ = some (.int .i64 k) := (b1.cell (p := ⟨b, off + 3, none⟩) hbl).trans x3
  have z4 : W1.cell? ⟨b, off + 4, none⟩ = some (.string s) := (b1.cell (p := ⟨b, off + 4, none⟩) hbl).trans x4
  clear qp hpv
  go_wp2_with fail
  refine (qp2.out _).mono ?_
  rintro e W2 ⟨rfl, b2⟩
  have B2 := b1.trans (b2.mono b1.size)
  have y0 : W2.cell? ⟨b, off, none⟩ = some (.int .i64 3) := (B2.cell (p := ⟨b, off, none⟩) hbl).trans x0
  have BB := Lib.hid B2
  clear B2 b1 b2 y0 z0 z1 z2 z3 z4 x0 x1 x2 x3 x4 qc2 qp2
  go_wp2
  go_loopw [5, 6, 7] (fun x5 x6 x7 wr => ∃ i : Nat, i ≤ 1 ∧ x5 = .int .i64 ((stepsL L i).1 : Int) ∧ x6 = .int .i64 ((stepsL L i).2 : Int) ∧ x7 = .int .i64 (i : Int) ∧ Hid (goodU L i) ∧ Hid (Below w.heap.size w wr)) (fun _ _ x7 _ => 1 - (intOf x7).toNat)
  case atStart => exact ⟨0, Nat.zero_le _, by rw [hs0.out]; rfl, by rw [hs0.out]; rfl, rfl, hg0, BB⟩
  case round =>
    obtain ⟨i, hi, rfl, rfl, rfl, hg, hB⟩ := hrel
    generalize wr = g0 at *
    by_cases hlt : i < 1
    · have hii : (i : Int) < 1 := by omega
      have h1 := hst.out i
      have h2 := hsp.out i
      have h3 := hsd.out i
      have h4 := hss.out i
      have hln := hLn.out
      rw [hln] at h1 h3
      have RL' := RL.out.below hB.out
      obtain ⟨a', hcut, hro⟩ := ro_from RL' (stepsL L i).1 h1
      have qT := HN.out g0 a' _ _ _ (by rw [List.length_drop, hln]; have := hLR.out; omega) hro (fun t ht => HSS.out t (List.mem_of_mem_drop ht))
      have hz1 := fun z => hnone.out i hlt hg.out z
      have hz2 := fun z => hgn.out i hg.out z
      have htl := takeL_le (L.drop (stepsL L i).1)
      rw [List.length_drop, hln] at htl
      have htd2 : (takeL (L.drop (stepsL L i).1)).2 ≤ n - (stepsL L i).1 := by
        refine Nat.le_trans (takeF_deep _ _) ?_
        rw [List.length_drop, hln]
        exact Nat.le_refl _
      obtain ⟨S1, hS1⟩ : ∃ S1, S1 = stepsL L (i + 1) := ⟨_, rfl⟩
      rw [← hS1] at h4
      replace hS1 := Lib.hid hS1
      have qT' := Lib.hid qT
      have hz1' := Lib.hid hz1
      have hz2' := Lib.hid hz2
      clear qT hz1 hz2 hro RL'
      generalize takeL (L.drop (stepsL L i).1) = X at *
      generalize stepsL L i = Y at *
      obtain ⟨X1, X2⟩ := X
      obtain ⟨Y1, Y2⟩ := Y
      dsimp only at *
      have h4' := Lib.hid h4
      clear h4
      have hY1 : (Y1 : Int) ≤ (n : Int) := by omega
      have hX1 : (X1 : Int) ≤ (n : Int) := by omega
      have hsum : (Y1 : Int) + (X1 : Int) ≤ (n : Int) := by omega
      have hY2 : (Y2 : Int) ≤ (n : Int) := by omega
      have hX2 : (X2 : Int) ≤ (n : Int) := by omega
      go_wp2_with fail
      refine qT'.out.mono ?_
      rintro e g1 ⟨rfl, b3⟩
      have B3 := Lib.hid (hB.out.trans (b3.mono hB.out.size))
      clear b3 hB qT' hcut
      by_cases hz : X1 = 0
      · have hF : Hid (TT = (0, 0)) := Lib.hid (hz1'.out hz)
        subst hz
        clear hz1' hz2' h4'
        go_wp2
        go_ret2
        exact ⟨by rw [hF.out]; rfl, B3.out⟩
      · have hzi : ((X1 : Int) == 0) = false := by simp; omega
        have hzn : (X1 == 0) = false := by simpa using hz
        have hg1 := Lib.hid (hz2'.out hz)
        clear hz1' hz2' hz
        by_cases hd : Y2 < X2
        · have hdi : (Y2 : Int) < (X2 : Int) := by omega
          have e1 : Hid (S1 = (Y1 + X1, X2)) := Lib.hid (by rw [h4'.out]; congr 1; omega)
          clear h4'
          go_wp2
          go_roundw
          case rel => exact ⟨i + 1, by omega, by rw [← hS1.out, e1.out]; go_num, by rw [← hS1.out, e1.out], by go_num, hg1, B3⟩
          case measure => simp [intOf]; omega
        · have hdi : ¬ (Y2 : Int) < (X2 : Int) := by omega
          have e1 : Hid (S1 = (Y1 + X1, Y2)) := Lib.hid (by rw [h4'.out]; congr 1; omega)
          clear h4'
          go_wp2
          go_roundw
          case rel => exact ⟨i + 1, by omega, by rw [← hS1.out, e1.out]; go_num, by rw [← hS1.out, e1.out], by go_num, hg1, B3⟩
          case measure => simp [intOf]; omega
    · have hii : ¬ (i : Int) < 1 := by omega
      have him : i = 1 := by omega
      subst him
      have e2 := hall.out hg.out
      have h3 := hsd.out 1
      rw [hLn.out] at h3
      have e2' := Lib.hid e2
      clear e2 hall hnone hst hsp hgn hss
      generalize stepsL L 1 = Y at *
      obtain ⟨Y1, Y2⟩ := Y
      dsimp only at *
      have h3i : (Y2 : Int) ≤ (n : Int) := by omega
      have hwr : wrap64 ((Y2 : Int) + 1) = ((Y2 + 1 : Nat) : Int) := by unfold wrap64; have := hLR.out; omega
      have hwr2 : wrap64 ((Y2 : Int) + 1) = (Y2 : Int) + 1 := by unfold wrap64; have := hLR.out; omega
      clear hwr
      go_wp2
      go_ret2
      exact ⟨by rw [e2'.out]; rfl, hB.out⟩
set_option maxRecDepth 100000 in
set_option maxHeartbeats 4000000 in
theorem qrtake_and (w : World) (a : Option Addr) (n c : Nat) (o f r k : Int) (s : ByteArray) (R : List TmD) (h : RO tmC w a n c (⟨o, f, r, k, s⟩ :: R)) (hs : ∀ t ∈ (⟨o, f, r, k, s⟩ : TmD) :: R, tmS t) (hN : TakeOK (R.length + 1)) (ho : o = 4) (hp : rightT ⟨o, f, r, k, s⟩ = true) : Calls Tryd.prog 10 #[.slice a n c] w (Gives (.tuple #[.int .i64 ((takeL (⟨o, f, r, k, s⟩ :: R)).1 : Int), .int .i64 ((takeL (⟨o, f, r, k, s⟩ :: R)).2 : Int)]) w) := by
  have hlen := h.len
  simp only [List.length_cons] at hlen
  have hn0 : (0 : Int) < (n : Int) := by omega
  have hne : ((n : Int) == 0) = false := by simp; omega
  have hnn : (n == 0) = false := by simp; omega
  obtain ⟨b, off, rfl, hbl, x0, x1, x2, x3, x4⟩ := tm_at h (i := 0) (by omega)
  simp only [List.getD_cons_zero, Nat.zero_mul, Nat.add_zero] at x0 x1 x2 x3 x4
  have HS := hs _ List.mem_cons_self
  have qc := Lib.hid (fun W => qrcmp_any ⟨o, f, r, k, s⟩ (rtxt_ok HS) (qstr_empty s) (tmS_max HS) W)
  have qp := Lib.hid (fun W => qrplain_any ⟨o, f, r, k, s⟩ W)
  subst ho
  have hcv : (decide ((4 : Int) = 2) && cmpOK ⟨4, f, r, k, s⟩) = false := by simp
  have hA : arity 4 = 2 := by decide
  have hpv : plainB ⟨4, f, r, k, s⟩ = true := by
    unfold rightT at hp
    rw [if_neg (show ¬ ((4 : Int) = 2) by decide)] at hp
    simpa using hp
  have hall := Lib.hid (fun g => take_all (t := ⟨4, f, r, k, s⟩) (r := R) hp (by rw [hA]; exact g))
  have hnone := Lib.hid (fun (i : Nat) (hi : i < 2) g z => take_none (t := ⟨4, f, r, k, s⟩) (r := R) (i := i) (by rw [hA]; exact hi) g z)
  have hst := Lib.hid (fun i => steps_le (⟨4, f, r, k, s⟩ : TmD) R i)
  have hsp := Lib.hid (fun i => steps_pos ((⟨4, f, r, k, s⟩ : TmD) :: R) i)
  have hsd := Lib.hid (fun i => steps_deep (⟨4, f, r, k, s⟩ : TmD) R i)
  have hgn := Lib.hid (fun (i : Nat) g z => goodU_next (l := (⟨4, f, r, k, s⟩ : TmD) :: R) (i := i) g z)
  have hss : Hid (∀ i, stepsL ((⟨4, f, r, k, s⟩ : TmD) :: R) (i + 1) = ((stepsL ((⟨4, f, r, k, s⟩ : TmD) :: R) i).1 + (takeL (((⟨4, f, r, k, s⟩ : TmD) :: R).drop (stepsL ((⟨4, f, r, k, s⟩ : TmD) :: R) i).1)).1, max (stepsL ((⟨4, f, r, k, s⟩ : TmD) :: R) i).2 (takeL (((⟨4, f, r, k, s⟩ : TmD) :: R).drop (stepsL ((⟨4, f, r, k, s⟩ : TmD) :: R) i).1)).2)) := Lib.hid (fun i => rfl)
  have hs0 : Hid (stepsL ((⟨4, f, r, k, s⟩ : TmD) :: R) 0 = (1, 0)) := Lib.hid rfl
  have hg0 : Hid (goodU ((⟨4, f, r, k, s⟩ : TmD) :: R) 0) := Lib.hid (fun j hj => by omega)
  rw [hA] at hall
  have hmx : (n : Int) ≤ 9223372036854775807 := by have := h.max'; omega
  have hLn : Hid (((⟨4, f, r, k, s⟩ : TmD) :: R).length = n) := Lib.hid h.len.symm
  have hLR : Hid (R.length + 1 = n) := Lib.hid hlen.symm
  have RL := Lib.hid h
  have HSS := Lib.hid hs
  have HN := Lib.hid hN
  clear hp h hs hN hlen hA HS
  generalize hL : ((⟨4, f, r, k, s⟩ : TmD) :: R) = L at *
  generalize hTT : takeL L = TT at *
  have hL' := Lib.hid hL
  have hTT' := Lib.hid hTT
  clear hL hTT
  have qp2 : Hid (∀ W, Calls Tryd.prog 24 #[.agg #[.int .i64 4, .int .i64 f, .int .i64 r, .int .i64 k, .string s]] W (Gives (.bool true) W)) := Lib.hid (fun W => by have q := qp.out W; dsimp only at q; rw [hpv] at q; exact q)
  have qc2 : Hid (∀ W, Calls Tryd.prog 23 #[.agg #[.int .i64 4, .int .i64 f, .int .i64 r, .int .i64 k, .string s]] W (Gives (.bool false) W)) := Lib.hid (fun W => by have q := qc.out W; dsimp only at q; rw [hcv] at q; exact q)
  clear qc hcv
  go_enter Tryd.func10, Tryd.ntmps10
  go_wp2_with fail
  refine (qc2.out _).mono ?_
  rintro e W1 ⟨rfl, b1⟩
  have z0 : W1.cell? ⟨b, off, none⟩ = some (.int .i64 4) := (b1.cell (p := ⟨b, off, none⟩) hbl).trans x0
  have z1 : W1.cell? ⟨b, off + 1, none⟩ = some (.int .i64 f) := (b1.cell (p := ⟨b, off + 1, none⟩) hbl).trans x1
  have z2 : W1.cell? ⟨b, off + 2, none⟩ = some (.int .i64 r) := (b1.cell (p := ⟨b, off + 2, none⟩) hbl).trans x2
  have z3 : W1.cell? ⟨b, off + 3, none⟩ = some (.int .i64 k) := (b1.cell (p := ⟨b, off + 3, none⟩) hbl).trans x3
  have z4 : W1.cell? ⟨b, off + 4, none⟩ = some (.string s) := (b1.cell (p := ⟨b, off + 4, none⟩) hbl).trans x4
  clear qp hpv
  go_wp2_with fail
  refine (qp2.out _).mono ?_
  rintro e W2 ⟨rfl, b2⟩
  have B2 := b1.trans (b2.mono b1.size)
  have y0 : W2.cell? ⟨b, off, none⟩ = some (.int .i64 4) := (B2.cell (p := ⟨b, off, none⟩) hbl).trans x0
  have BB := Lib.hid B2
  clear B2 b1 b2 y0 z0 z1 z2 z3 z4 x0 x1 x2 x3 x4 qc2 qp2
  go_wp2
  go_loopw [5, 6, 7] (fun x5 x6 x7 wr => ∃ i : Nat, i ≤ 2 ∧ x5 = .int .i64 ((stepsL L i).1 : Int) ∧ x6 = .int .i64 ((stepsL L i).2 : Int) ∧ x7 = .int .i64 (i : Int) ∧ Hid (goodU L i) ∧ Hid (Below w.heap.size w wr)) (fun _ _ x7 _ => 2 - (intOf x7).toNat)
  case atStart => exact ⟨0, Nat.zero_le _, by rw [hs0.out]; rfl, by rw [hs0.out]; rfl, rfl, hg0, BB⟩
  case round =>
    obtain ⟨i, hi, rfl, rfl, rfl, hg, hB⟩ := hrel
    generalize wr = g0 at *
    by_cases hlt : i < 2
    · have hii : (i : Int) < 2 := by omega
      have h1 := hst.out i
      have h2 := hsp.out i
      have h3 := hsd.out i
      have h4 := hss.out i
      have hln := hLn.out
      rw [hln] at h1 h3
      have RL' := RL.out.below hB.out
      obtain ⟨a', hcut, hro⟩ := ro_from RL' (stepsL L i).1 h1
      have qT := HN.out g0 a' _ _ _ (by rw [List.length_drop, hln]; have := hLR.out; omega) hro (fun t ht => HSS.out t (List.mem_of_mem_drop ht))
      have hz1 := fun z => hnone.out i hlt hg.out z
      have hz2 := fun z => hgn.out i hg.out z
      have htl := takeL_le (L.drop (stepsL L i).1)
      rw [List.length_drop, hln] at htl
      have htd2 : (takeL (L.drop (stepsL L i).1)).2 ≤ n - (stepsL L i).1 := by
        refine Nat.le_trans (takeF_deep _ _) ?_
        rw [List.length_drop, hln]
        exact Nat.le_refl _
      obtain ⟨S1, hS1⟩ : ∃ S1, S1 = stepsL L (i + 1) := ⟨_, rfl⟩
      rw [← hS1] at h4
      replace hS1 := Lib.hid hS1
      have qT' := Lib.hid qT
      have hz1' := Lib.hid hz1
      have hz2' := Lib.hid hz2
      clear qT hz1 hz2 hro RL'
      generalize takeL (L.drop (stepsL L i).1) = X at *
      generalize stepsL L i = Y at *
      obtain ⟨X1, X2⟩ := X
      obtain ⟨Y1, Y2⟩ := Y
      dsimp only at *
      have h4' := Lib.hid h4
      clear h4
      have hY1 : (Y1 : Int) ≤ (n : Int) := by omega
      have hX1 : (X1 : Int) ≤ (n : Int) := by omega
      have hsum : (Y1 : Int) + (X1 : Int) ≤ (n : Int) := by omega
      have hY2 : (Y2 : Int) ≤ (n : Int) := by omega
      have hX2 : (X2 : Int) ≤ (n : Int) := by omega
      go_wp2_with fail
      refine qT'.out.mono ?_
      rintro e g1 ⟨rfl, b3⟩
      have B3 := Lib.hid (hB.out.trans (b3.mono hB.out.size))
      clear b3 hB qT' hcut
      by_cases hz : X1 = 0
      · have hF : Hid (TT = (0, 0)) := Lib.hid (hz1'.out hz)
        subst hz
        clear hz1' hz2' h4'
        go_wp2
        go_ret2
        exact ⟨by rw [hF.out]; rfl, B3.out⟩
      · have hzi : ((X1 : Int) == 0) = false := by simp; omega
        have hzn : (X1 == 0) = false := by simpa using hz
        have hg1 := Lib.hid (hz2'.out hz)
        clear hz1' hz2' hz
        by_cases hd : Y2 < X2
        · have hdi : (Y2 : Int) < (X2 : Int) := by omega
          have e1 : Hid (S1 = (Y1 + X1, X2)) := Lib.hid (by rw [h4'.out]; congr 1; omega)
          clear h4'
          go_wp2
          go_roundw
          case rel => exact ⟨i + 1, by omega, by rw [← hS1.out, e1.out]; go_num, by rw [← hS1.out, e1.out], by go_num, hg1, B3⟩
          case measure => simp [intOf]; omega
        · have hdi : ¬ (Y2 : Int) < (X2 : Int) := by omega
          have e1 : Hid (S1 = (Y1 + X1, Y2)) := Lib.hid (by rw [h4'.out]; congr 1; omega)
          clear h4'
          go_wp2
          go_roundw
          case rel => exact ⟨i + 1, by omega, by rw [← hS1.out, e1.out]; go_num, by rw [← hS1.out, e1.out], by go_num, hg1, B3⟩
          case measure => simp [intOf]; omega
    · have hii : ¬ (i : Int) < 2 := by omega
      have him : i = 2 := by omega
      subst him
      have e2 := hall.out hg.out
      have h3 := hsd.out 2
      rw [hLn.out] at h3
      have e2' := Lib.hid e2
      clear e2 hall hnone hst hsp hgn hss
      generalize stepsL L 2 = Y at *
      obtain ⟨Y1, Y2⟩ := Y
      dsimp only at *
      have h3i : (Y2 : Int) ≤ (n : Int) := by omega
      have hwr : wrap64 ((Y2 : Int) + 1) = ((Y2 + 1 : Nat) : Int) := by unfold wrap64; have := hLR.out; omega
      have hwr2 : wrap64 ((Y2 : Int) + 1) = (Y2 : Int) + 1 := by unfold wrap64; have := hLR.out; omega
      clear hwr
      go_wp2
      go_ret2
      exact ⟨by rw [e2'.out]; rfl, hB.out⟩
set_option maxRecDepth 100000 in
set_option maxHeartbeats 4000000 in
theorem qrtake_or (w : World) (a : Option Addr) (n c : Nat) (o f r k : Int) (s : ByteArray) (R : List TmD) (h : RO tmC w a n c (⟨o, f, r, k, s⟩ :: R)) (hs : ∀ t ∈ (⟨o, f, r, k, s⟩ : TmD) :: R, tmS t) (hN : TakeOK (R.length + 1)) (ho : o = 5) (hp : rightT ⟨o, f, r, k, s⟩ = true) : Calls Tryd.prog 10 #[.slice a n c] w (Gives (.tuple #[.int .i64 ((takeL (⟨o, f, r, k, s⟩ :: R)).1 : Int), .int .i64 ((takeL (⟨o, f, r, k, s⟩ :: R)).2 : Int)]) w) := by
  have hlen := h.len
  simp only [List.length_cons] at hlen
  have hn0 : (0 : Int) < (n : Int) := by omega
  have hne : ((n : Int) == 0) = false := by simp; omega
  have hnn : (n == 0) = false := by simp; omega
  obtain ⟨b, off, rfl, hbl, x0, x1, x2, x3, x4⟩ := tm_at h (i := 0) (by omega)
  simp only [List.getD_cons_zero, Nat.zero_mul, Nat.add_zero] at x0 x1 x2 x3 x4
  have HS := hs _ List.mem_cons_self
  have qc := Lib.hid (fun W => qrcmp_any ⟨o, f, r, k, s⟩ (rtxt_ok HS) (qstr_empty s) (tmS_max HS) W)
  have qp := Lib.hid (fun W => qrplain_any ⟨o, f, r, k, s⟩ W)
  subst ho
  have hcv : (decide ((5 : Int) = 2) && cmpOK ⟨5, f, r, k, s⟩) = false := by simp
  have hA : arity 5 = 2 := by decide
  have hpv : plainB ⟨5, f, r, k, s⟩ = true := by
    unfold rightT at hp
    rw [if_neg (show ¬ ((5 : Int) = 2) by decide)] at hp
    simpa using hp
  have hall := Lib.hid (fun g => take_all (t := ⟨5, f, r, k, s⟩) (r := R) hp (by rw [hA]; exact g))
  have hnone := Lib.hid (fun (i : Nat) (hi : i < 2) g z => take_none (t := ⟨5, f, r, k, s⟩) (r := R) (i := i) (by rw [hA]; exact hi) g z)
  have hst := Lib.hid (fun i => steps_le (⟨5, f, r, k, s⟩ : TmD) R i)
  have hsp := Lib.hid (fun i => steps_pos ((⟨5, f, r, k, s⟩ : TmD) :: R) i)
  have hsd := Lib.hid (fun i => steps_deep (⟨5, f, r, k, s⟩ : TmD) R i)
  have hgn := Lib.hid (fun (i : Nat) g z => goodU_next (l := (⟨5, f, r, k, s⟩ : TmD) :: R) (i := i) g z)
  have hss : Hid (∀ i, stepsL ((⟨5, f, r, k, s⟩ : TmD) :: R) (i + 1) = ((stepsL ((⟨5, f, r, k, s⟩ : TmD) :: R) i).1 + (takeL (((⟨5, f, r, k, s⟩ : TmD) :: R).drop (stepsL ((⟨5, f, r, k, s⟩ : TmD) :: R) i).1)).1, max (stepsL ((⟨5, f, r, k, s⟩ : TmD) :: R) i).2 (takeL (((⟨5, f, r, k, s⟩ : TmD) :: R).drop (stepsL ((⟨5, f, r, k, s⟩ : TmD) :: R) i).1)).2)) := Lib.hid (fun i => rfl)
  have hs0 : Hid (stepsL ((⟨5, f, r, k, s⟩ : TmD) :: R) 0 = (1, 0)) := Lib.hid rfl
  have hg0 : Hid (goodU ((⟨5, f, r, k, s⟩ : TmD) :: R) 0) := Lib.hid (fun j hj => by omega)
  rw [hA] at hall
  have hmx : (n : Int) ≤ 9223372036854775807 := by have := h.max'; omega
  have hLn : Hid (((⟨5, f, r, k, s⟩ : TmD) :: R).length = n) := Lib.hid h.len.symm
  have hLR : Hid (R.length + 1 = n) := Lib.hid hlen.symm
  have RL := Lib.hid h
  have HSS := Lib.hid hs
  have HN := Lib.hid hN
  clear hp h hs hN hlen hA HS
  generalize hL : ((⟨5, f, r, k, s⟩ : TmD) :: R) = L at *
  generalize hTT : takeL L = TT at *
  have hL' := Lib.hid hL
  have hTT' := Lib.hid hTT
  clear hL hTT
  have qp2 : Hid (∀ W, Calls Tryd.prog 24 #[.agg #[.int .i64 5, .int .i64 f, .int .i64 r, .int .i64 k, .string s]] W (Gives (.bool true) W)) := Lib.hid (fun W => by have q := qp.out W; dsimp only at q; rw [hpv] at q; exact q)
  have qc2 : Hid (∀ W, Calls Tryd.prog 23 #[.agg #[.int .i64 5, .int .i64 f, .int .i64 r, .int .i64 k, .string s]] W (Gives (.bool false) W)) := Lib.hid (fun W => by have q := qc.out W; dsimp only at q; rw [hcv] at q; exact q)
  clear qc hcv
  go_enter Tryd.func10, Tryd.ntmps10
  go_wp2_with fail
  refine (qc2.out _).mono ?_
  rintro e W1 ⟨rfl, b1⟩
  have z0 : W1.cell? ⟨b, off, none⟩ = some (.int .i64 5) := (b1.cell (p := ⟨b, off, none⟩) hbl).trans x0
  have z1 : W1.cell? ⟨b, off + 1, none⟩ = some (.int .i64 f) := (b1.cell (p := ⟨b, off + 1, none⟩) hbl).trans x1
  have z2 : W1.cell? ⟨b, off + 2, none⟩ = some (.int .i64 r) := (b1.cell (p := ⟨b, off + 2, none⟩) hbl).trans x2
  have z3 : W1.cell? ⟨b, off + 3, none⟩ = some (.int .i64 k) := (b1.cell (p := ⟨b, off + 3, none⟩) hbl).trans x3
  have z4 : W1.cell? ⟨b, off + 4, none⟩ = some (.string s) := (b1.cell (p := ⟨b, off + 4, none⟩) hbl).trans x4
  clear qp hpv
  go_wp2_with fail
  refine (qp2.out _).mono ?_
  rintro e W2 ⟨rfl, b2⟩
  have B2 := b1.trans (b2.mono b1.size)
  have y0 : W2.cell? ⟨b, off, none⟩ = some (.int .i64 5) := (B2.cell (p := ⟨b, off, none⟩) hbl).trans x0
  have BB := Lib.hid B2
  clear B2 b1 b2 y0 z0 z1 z2 z3 z4 x0 x1 x2 x3 x4 qc2 qp2
  go_wp2
  go_loopw [5, 6, 7] (fun x5 x6 x7 wr => ∃ i : Nat, i ≤ 2 ∧ x5 = .int .i64 ((stepsL L i).1 : Int) ∧ x6 = .int .i64 ((stepsL L i).2 : Int) ∧ x7 = .int .i64 (i : Int) ∧ Hid (goodU L i) ∧ Hid (Below w.heap.size w wr)) (fun _ _ x7 _ => 2 - (intOf x7).toNat)
  case atStart => exact ⟨0, Nat.zero_le _, by rw [hs0.out]; rfl, by rw [hs0.out]; rfl, rfl, hg0, BB⟩
  case round =>
    obtain ⟨i, hi, rfl, rfl, rfl, hg, hB⟩ := hrel
    generalize wr = g0 at *
    by_cases hlt : i < 2
    · have hii : (i : Int) < 2 := by omega
      have h1 := hst.out i
      have h2 := hsp.out i
      have h3 := hsd.out i
      have h4 := hss.out i
      have hln := hLn.out
      rw [hln] at h1 h3
      have RL' := RL.out.below hB.out
      obtain ⟨a', hcut, hro⟩ := ro_from RL' (stepsL L i).1 h1
      have qT := HN.out g0 a' _ _ _ (by rw [List.length_drop, hln]; have := hLR.out; omega) hro (fun t ht => HSS.out t (List.mem_of_mem_drop ht))
      have hz1 := fun z => hnone.out i hlt hg.out z
      have hz2 := fun z => hgn.out i hg.out z
      have htl := takeL_le (L.drop (stepsL L i).1)
      rw [List.length_drop, hln] at htl
      have htd2 : (takeL (L.drop (stepsL L i).1)).2 ≤ n - (stepsL L i).1 := by
        refine Nat.le_trans (takeF_deep _ _) ?_
        rw [List.length_drop, hln]
        exact Nat.le_refl _
      obtain ⟨S1, hS1⟩ : ∃ S1, S1 = stepsL L (i + 1) := ⟨_, rfl⟩
      rw [← hS1] at h4
      replace hS1 := Lib.hid hS1
      have qT' := Lib.hid qT
      have hz1' := Lib.hid hz1
      have hz2' := Lib.hid hz2
      clear qT hz1 hz2 hro RL'
      generalize takeL (L.drop (stepsL L i).1) = X at *
      generalize stepsL L i = Y at *
      obtain ⟨X1, X2⟩ := X
      obtain ⟨Y1, Y2⟩ := Y
      dsimp only at *
      have h4' := Lib.hid h4
      clear h4
      have hY1 : (Y1 : Int) ≤ (n : Int) := by omega
      have hX1 : (X1 : Int) ≤ (n : Int) := by omega
      have hsum : (Y1 : Int) + (X1 : Int) ≤ (n : Int) := by omega
      have hY2 : (Y2 : Int) ≤ (n : Int) := by omega
      have hX2 : (X2 : Int) ≤ (n : Int) := by omega
      go_wp2_with fail
      refine qT'.out.mono ?_
      rintro e g1 ⟨rfl, b3⟩
      have B3 := Lib.hid (hB.out.trans (b3.mono hB.out.size))
      clear b3 hB qT' hcut
      by_cases hz : X1 = 0
      · have hF : Hid (TT = (0, 0)) := Lib.hid (hz1'.out hz)
        subst hz
        clear hz1' hz2' h4'
        go_wp2
        go_ret2
        exact ⟨by rw [hF.out]; rfl, B3.out⟩
      · have hzi : ((X1 : Int) == 0) = false := by simp; omega
        have hzn : (X1 == 0) = false := by simpa using hz
        have hg1 := Lib.hid (hz2'.out hz)
        clear hz1' hz2' hz
        by_cases hd : Y2 < X2
        · have hdi : (Y2 : Int) < (X2 : Int) := by omega
          have e1 : Hid (S1 = (Y1 + X1, X2)) := Lib.hid (by rw [h4'.out]; congr 1; omega)
          clear h4'
          go_wp2
          go_roundw
          case rel => exact ⟨i + 1, by omega, by rw [← hS1.out, e1.out]; go_num, by rw [← hS1.out, e1.out], by go_num, hg1, B3⟩
          case measure => simp [intOf]; omega
        · have hdi : ¬ (Y2 : Int) < (X2 : Int) := by omega
          have e1 : Hid (S1 = (Y1 + X1, Y2)) := Lib.hid (by rw [h4'.out]; congr 1; omega)
          clear h4'
          go_wp2
          go_roundw
          case rel => exact ⟨i + 1, by omega, by rw [← hS1.out, e1.out]; go_num, by rw [← hS1.out, e1.out], by go_num, hg1, B3⟩
          case measure => simp [intOf]; omega
    · have hii : ¬ (i : Int) < 2 := by omega
      have him : i = 2 := by omega
      subst him
      have e2 := hall.out hg.out
      have h3 := hsd.out 2
      rw [hLn.out] at h3
      have e2' := Lib.hid e2
      clear e2 hall hnone hst hsp hgn hss
      generalize stepsL L 2 = Y at *
      obtain ⟨Y1, Y2⟩ := Y
      dsimp only at *
      have h3i : (Y2 : Int) ≤ (n : Int) := by omega
      have hwr : wrap64 ((Y2 : Int) + 1) = ((Y2 + 1 : Nat) : Int) := by unfold wrap64; have := hLR.out; omega
      have hwr2 : wrap64 ((Y2 : Int) + 1) = (Y2 : Int) + 1 := by unfold wrap64; have := hLR.out; omega
      clear hwr
      go_wp2
      go_ret2
      exact ⟨by rw [e2'.out]; rfl, hB.out⟩
theorem qrtake_any : ∀ N, TakeOK N
  | 0 => fun w a n c l h => absurd h (by omega)
  | N + 1 => fun w a n c l h hr hs => by
    have ih := qrtake_any N
    match l, h, hr, hs with
    | [], _, hr, _ =>
      have := hr.len
      simp only [List.length_nil] at this
      subst this
      exact qrtake_nil w a c
    | ⟨o, f, r, k, s⟩ :: R, h, hr, hs =>
      have ih2 : TakeOK (R.length + 1) := fun w a n c l h' => ih w a n c l (by simp only [List.length_cons] at h; omega)
      by_cases h2 : o = 2
      · exact qrtake_two w a n c o f r k s R hr hs h2
      · cases hp : rightT ⟨o, f, r, k, s⟩
        · exact qrtake_no w a n c o f r k s R hr hs h2 hp
        · have ho := right_ops hp
          simp only at ho
          by_cases h1 : o = 1
          · exact qrtake_all w a n c o f r k s R hr hs h1 hp
          · by_cases h3 : o = 3
            · exact qrtake_not w a n c o f r k s R hr hs ih2 h3 hp
            · by_cases h4 : o = 4
              · exact qrtake_and w a n c o f r k s R hr hs ih2 h4 hp
              · exact qrtake_or w a n c o f r k s R hr hs ih2 (by omega) hp
end Go.Proofs.YtknnjkhocbpohaaDoor
namespace Go.Proofs.YtknnjkhocbpohaaDoor
open Go.RowKit
set_option linter.unusedVariables false
set_option linter.unusedSimpArgs false
theorem RO.belowE {α : Type} {f : α → List Value} {w w' : World} {X : List Nat} {a : Option Addr} {n c : Nat} {l : List α} (h : RO f w a n c l) (hb : BelowE X w.heap.size w w') (hx : ∀ b off, a = some ⟨b, off, none⟩ → b ∉ X) : RO f w' a n c l := by
  refine ⟨h.len, h.cap, h.max, ?_⟩
  rcases h.sees with e | ⟨b, off, e1, hB, hc⟩
  · exact .inl e
  · exact .inr ⟨b, off, e1, Nat.lt_of_lt_of_le hB hb.size, fun i u hu => (hb.cell (p := ⟨b, off + i, none⟩) hB (hx b off e1)).trans (hc i u hu)⟩
def Off (a : Option Addr) (g : Nat) : Prop := ∀ b off, a = some ⟨b, off, none⟩ → b ∉ [g]
theorem off_new {α : Type} {f : α → List Value} {w : World} {a : Option Addr} {n c : Nat} {l : List α} (h : RO f w a n c l) (hl : (l.flatMap f) ≠ []) : Off a w.heap.size := by
  intro b off e
  rcases h.sees with e1 | ⟨b2, off2, e1, hB, _⟩
  · exact absurd e1 hl
  · rw [e1] at e
    injection e with e
    injection e with e2 e3
    subst e2
    simp
    omega
structure FiltE (w : World) (g : Nat) (a : Option Addr) (n c : Nat) (p mo dp : Nat) (X : Nat × Nat) (e : Ending) (w' : World) : Prop where
  ret : e = .returned (.bool (decide (X.1 ≠ 0)))
  bel : BelowE [g] w.heap.size w w'
  blk : ∃ p' mo' : Nat, Holds w' g 47 #[.slice a n c, .int .i64 (p' : Int), .int .i64 (mo' : Int)] ∧ (X.1 ≠ 0 → p' = p + X.1 ∧ mo' = max mo (dp + X.2 - 1))
def FiltOK (N : Nat) : Prop := ∀ (w : World) (g : Nat) (a : Option Addr) (n c p mo dp : Nat) (l : List TmD), n - p < N → p ≤ n → RO tmC w a n c l → (∀ t ∈ l, tmS t) → ATab w → 2 < g → Off a g →
  Holds w g 47 #[.slice a n c, .int .i64 (p : Int), .int .i64 (mo : Int)] → dp + (n - p) ≤ 1000000 → mo ≤ 1000000 →
  Calls Tryd.prog 25 #[.pointer (some ⟨g, 0, none⟩), .int .i64 (dp : Int)] w (FiltE w g a n c p mo dp (takeL (l.drop p)))
set_option maxRecDepth 100000 in
set_option maxHeartbeats 4000000 in
theorem filt_end (w : World) (g : Nat) (a : Option Addr) (n c mo dp : Nat) (l : List TmD) (hln : l.length = n) (hm : (n : Int) ≤ 9223372036854775807) (hg : Holds w g 47 #[.slice a n c, .int .i64 (n : Int), .int .i64 (mo : Int)]) :
    Calls Tryd.prog 25 #[.pointer (some ⟨g, 0, none⟩), .int .i64 (dp : Int)] w (FiltE w g a n c n mo dp (takeL (l.drop n))) := by
  have hT : Hid (takeL (l.drop n) = (0, 0)) := Lib.hid (by rw [List.drop_of_length_le (by omega)]; rfl)
  have k0 := hg.cell 0
  have k1 := hg.cell 1
  have k2 := hg.cell 2
  simp at k0 k1 k2
  have HG := Lib.hid hg
  generalize takeL (l.drop n) = X at *
  have e1 : ((n : Int) == (n : Int)) = true := by simp
  clear hg hln
  go_enter Tryd.func25, Tryd.ntmps25
  go_wp2
  go_quiet (fail)
  go_wp2
  go_ret
  exact ⟨by rw [hT.out]; rfl, BelowE.drewN (BelowE.refl _ _ _) _, n, mo, HG.out.drewN _, by rw [hT.out]; exact fun h => absurd rfl h⟩
end Go.Proofs.YtknnjkhocbpohaaDoor
