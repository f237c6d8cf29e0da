/- norm.Key, the document's Key. -/
import Derived.Test.YtnekeflgdadbcaaNormMore
import Derived.Test.YtnekeflgdadbcaaCurPens
import Derived.Test.YtnekeflgdadbcaaPuts
namespace Go.Proofs.Ytnekeflgdadbcaa
open Go.RowKit
set_option linter.unusedVariables false
set_option linter.unusedSimpArgs false

/-- The bytes of a key. -/
def keyL (k : Int) (f : ByteArray) (x : List Int) : List Int := leb (max k 0).toNat ++ ((leb f.size ++ codes f) ++ (leb x.length ++ x))
theorem strOf_size_codes {x : List Int} (h : Bs x) : leb (strOfNums x).size ++ codes (strOfNums x) = leb x.length ++ x := by
  rw [codes_str h, ← codes_length, codes_str h]

theorem Turns.allw {W w w' : World} {F F' : List Nat} (h : Turns F F' w w') (hb : Below W.heap.size W w) (hF : ∀ x ∈ F, W.heap.size ≤ x) : Below W.heap.size W w' ∧ ∀ x ∈ F', W.heap.size ≤ x :=
  ⟨hb.trans ((h.1.mono hb.size).toBelow hF), fun x hx => (h.2 x hx).elim (hF x) (fun h => Nat.le_trans hb.size h)⟩
set_option maxHeartbeats 2000000 in
theorem key_any (k : Int) (hk : (Lit.int .i64 k).wf = true) (f s : ByteArray) (hf : f.size ≤ 100000) (hs : s.size ≤ 100000) (w : World) :
    Calls Try.prog 14 #[.int .i64 k, .string f, .string s] w (Made 5 .u8 w (keyL k f (normS (codes s)))) := by
  have hk' := i64_wf hk
  have hn := Lib.hid (fun W => norm_any s hs W)
  have hT : (normS (codes s)).length ≤ 100000 := by have := normS_len (codes s); rw [codes_length] at this; omega
  have hTb : Bs (normS (codes s)) := norm_bs (parts_bs _ (Nat.le_refl _) (codes_bs s)) false
  have hm0 : 0 ≤ max k 0 := by omega
  have hm1 : U64 (max k 0) := by unfold U64; omega
  have h10 := hm1.le10
  have h10f := (show U64 (f.size : Int) by unfold U64; omega).le10
  simp only [Int.toNat_natCast] at h10f
  have hfl := codes_length f
  have hsz : (strOfNums (normS (codes s))).size ≤ 100000 := by rw [strOfNums_size]; exact hT
  have hx := Lib.hid (strOf_size_codes hTb)
  have hwr : IntKind.u64.wrap (max k 0) = max k 0 := wrap_u64_in hm0 hm1.2
  have hmax : Hid (max k 0 = max k 0) := Lib.hid rfl
  unfold keyL
  generalize normS (codes s) = T at *
  generalize strOfNums T = sT at *
  have p1 : ∀ g F W, Pn W g F [] → Calls Try.prog 23 #[.pointer (some ⟨g, 0, none⟩), .int .u64 (max k 0)] W (Writes g F (leb (max k 0).toNat) W) := fun g F W h => pu_any g F [] _ W h hm0 hm1 (by simp)
  have p2 : ∀ g F W, Pn W g F (leb (max k 0).toNat) → Calls Try.prog 24 #[.pointer (some ⟨g, 0, none⟩), .string f] W (Writes g F (leb (max k 0).toNat ++ (leb f.size ++ codes f)) W) := fun g F W h => ptext_any g F _ f W h (by omega) (by omega) (by omega)
  have p3 : ∀ g F W, Pn W g F (leb (max k 0).toNat ++ (leb f.size ++ codes f)) → Calls Try.prog 24 #[.pointer (some ⟨g, 0, none⟩), .string sT] W (Writes g F (leb (max k 0).toNat ++ ((leb f.size ++ codes f) ++ (leb T.length ++ T))) W) := fun g F W h => by
    have := ptext_any g F _ sT W h (by omega) (by simp; omega) (by simp; omega)
    rw [hx.out, List.append_assoc] at this
    exact this
  have p4 : ∀ g F W, Pn W g F (leb (max k 0).toNat ++ ((leb f.size ++ codes f) ++ (leb T.length ++ T))) → Calls Try.prog 25 #[.pointer (some ⟨g, 0, none⟩)] W (Made 5 .u8 W (leb (max k 0).toNat ++ ((leb f.size ++ codes f) ++ (leb T.length ++ T)))) := fun g F W h => pbytes_any g F _ W h (by
    have := (show U64 (T.length : Int) by unfold U64; omega).le10
    simp only [Int.toNat_natCast] at this
    simp; omega)
  have p1' := Lib.hid p1
  have p2' := Lib.hid p2
  have p3' := Lib.hid p3
  have p4' := Lib.hid p4
  clear p1 p2 p3 p4 h10 h10f hfl hsz hx hT hTb hf hs hk
  generalize leb (max k 0).toNat ++ ((leb f.size ++ codes f) ++ (leb T.length ++ T)) = L3 at *
  generalize leb (max k 0).toNat ++ (leb f.size ++ codes f) = L2 at *
  generalize leb (max k 0).toNat = L1 at *
  go_enter Try.func14, Try.ntmps14
  go_wp2_with fail
  refine (new_any w).mono ?_
  rintro e w1 ⟨g, F, rfl, q0, b0, f0⟩
  have q0' := Lib.hid q0
  have b0' := Lib.hid b0
  have f0' := Lib.hid f0
  clear q0 b0 f0
  go_wp2_with fail
  refine (p1'.out g F w1 q0'.out).mono ?_
  rintro e w2 ⟨rfl, F1, q1, t1⟩
  obtain ⟨b1, f1⟩ := t1.allw b0'.out f0'.out
  have q1' := Lib.hid q1
  have b1' := Lib.hid b1
  have f1' := Lib.hid f1
  clear q1 b1 f1 t1 q0' b0' f0' p1'
  go_wp2_with fail
  refine (p2'.out g F1 w2 q1'.out).mono ?_
  rintro e w3 ⟨rfl, F2, q2, t2⟩
  obtain ⟨b2, f2⟩ := t2.allw b1'.out f1'.out
  have q2' := Lib.hid q2
  have b2' := Lib.hid b2
  have f2' := Lib.hid f2
  clear q2 b2 f2 t2 q1' b1' f1' p2'
  go_wp2_with fail
  refine (hn.out w3).mono ?_
  rintro e w4 ⟨rfl, b3⟩
  have q3' := Lib.hid (q2'.out.below b3)
  have b3' := Lib.hid (b2'.out.trans (b3.mono b2'.out.size))
  clear b3 q2' b2' hn
  go_wp2_with fail
  refine (p3'.out g F2 w4 q3'.out).mono ?_
  rintro e w5 ⟨rfl, F3, q4, t4⟩
  obtain ⟨b4, f4⟩ := t4.allw b3'.out f2'.out
  have q4' := Lib.hid q4
  have b4' := Lib.hid b4
  clear q4 b4 f4 t4 q3' b3' f2' p3'
  go_wp2_with fail
  refine (p4'.out g F3 w5 q4'.out).mono ?_
  rintro e w6 h6
  have h6' := Lib.hid h6
  obtain ⟨v, rfl, -, -⟩ := h6
  go_wp2
  go_ret
  obtain ⟨v', e1, o1, bb⟩ := h6'.out
  exact ⟨v', e1, own_from o1 (fun q hq => Nat.le_trans b4'.out.size ((o1.lt q hq).1)), b4'.out.trans (bb.mono b4'.out.size)⟩

set_option maxHeartbeats 2000000 in
theorem rkey_any (k : Int) (hk : (Lit.int .i64 k).wf = true) (f s : ByteArray) (hf : f.size ≤ 100000) (hs : s.size ≤ 100000) (w : World) :
    Calls Try.prog 15 #[.int .i64 k, .string f, .string s] w (Made 5 .u8 w (keyL k f (normS (codes s)))) := by
  obtain ⟨i0, hi, hz0, hz1, hz2⟩ := info_parts infoU8
  have hk' := i64_wf hk
  have hn := Lib.hid (fun W => rnorm_any s hs W)
  have hT : (normS (codes s)).length ≤ 100000 := by have := normS_len (codes s); rw [codes_length] at this; omega
  have hTb : Bs (normS (codes s)) := norm_bs (parts_bs _ (Nat.le_refl _) (codes_bs s)) false
  have hsz : (strOfNums (normS (codes s))).size ≤ 100000 := by rw [strOfNums_size]; exact hT
  have hx := strOf_size_codes hTb
  have h10 := (show U64 (max k 0) by unfold U64; omega).le10
  have h10f := (show U64 (f.size : Int) by unfold U64; omega).le10
  have h10t := (show U64 ((normS (codes s)).length : Int) by unfold U64; omega).le10
  simp only [Int.toNat_natCast] at h10f h10t
  have hfl := codes_length f
  have hp1 := Lib.hid (fun W => rnum_any (max k 0) W (by omega) (by omega))
  have hp2 := Lib.hid (fun W => rtxt_any f W (by omega))
  have hp3 : ∀ W, Calls Try.prog 27 #[.string (strOfNums (normS (codes s)))] W (Made 5 .u8 W (leb (normS (codes s)).length ++ normS (codes s))) := fun W => by
    have := rtxt_any (strOfNums (normS (codes s))) W (by omega)
    rw [hx] at this; exact this
  have hp3' := Lib.hid hp3
  have e1 : Hid ((leb (max k 0).toNat).length + (leb f.size ++ codes f).length ≤ 140737488355328) := Lib.hid (by simp; omega)
  have e2 : Hid ((leb (max k 0).toNat ++ (leb f.size ++ codes f)).length + (leb (normS (codes s)).length ++ normS (codes s)).length ≤ 140737488355328) := Lib.hid (by simp; omega)
  unfold keyL
  rw [← List.append_assoc]
  clear hp3 h10 h10f h10t hfl hsz hx hT hTb hf hs
  generalize leb (normS (codes s)).length ++ normS (codes s) = L3 at *
  generalize leb f.size ++ codes f = L2 at *
  generalize normS (codes s) = T at *
  generalize strOfNums T = sT at *
  have main : ∀ m : Int, m = max k 0 → Hid (∀ W, Calls Try.prog 26 #[.int .i64 m] W (Made 5 .u8 W (leb (max k 0).toNat))) := by rintro m rfl; exact hp1
  generalize leb (max k 0).toNat = L1 at *
  clear hp1
  by_cases hneg : k < 0
  · have hp1 := main 0 (by omega)
    clear main hk hk'
    go_enter Try.func15, Try.ntmps15
    go_wp2_with fail
    refine (hp1.out w).mono ?_
    rintro e w1 ⟨v1, rfl, o1, b1⟩
    have o1' := Lib.hid o1
    have b1' := Lib.hid b1
    clear o1 b1 hp1
    go_wp2_with fail
    refine (hp2.out w1).mono ?_
    intro e w2 h2
    obtain ⟨a2, c2, rfl, s2, b2⟩ := h2.open _ rfl
    clear hp2 h2
    go_wp2_with (at_builtin; refine made_append (w := w) (w1 := w1) rfl (.tmp 10) (.tmp 12) 30 rfl 5 i0 Try.underlying30 hi hz0 hz1 hz2 v1 L1 o1'.out b1'.out b2 a2 L2 L2.length c2 rfl s2 rfl rfl e1.out ?_; intro v3 w3 o3 b3; have o3' := Lib.hid o3; have b3' := Lib.hid b3; clear o3 b3)
    refine (hn.out w3).mono ?_
    rintro e w4 ⟨rfl, b4⟩
    have o4' := Lib.hid (own_below o3'.out b4)
    have b4' := Lib.hid (b3'.out.trans (b4.mono b3'.out.size))
    clear b4 hn b2 s2 o1' b1'
    go_wp2_with fail
    refine (hp3'.out w4).mono ?_
    intro e w5 h5
    obtain ⟨a5, c5, rfl, s5, b5⟩ := h5.open _ rfl
    clear hp3' h5
    go_wp2_with (at_builtin; refine made_append (w := w) (w1 := w4) rfl (.tmp 13) (.tmp 16) 30 rfl 5 i0 Try.underlying30 hi hz0 hz1 hz2 v3 (L1 ++ L2) o4'.out b4'.out b5 a5 L3 L3.length c5 rfl s5 rfl rfl e2.out ?_; intro v6 w6 o6 b6; have o6' := Lib.hid o6; have b6' := Lib.hid b6; clear o6 b6)
    go_ret
    exact ⟨_, rfl, o6'.out, b6'.out⟩
  · have hp1 := main k (by omega)
    clear main hk
    go_enter Try.func15, Try.ntmps15
    go_wp2_with fail
    refine (hp1.out w).mono ?_
    rintro e w1 ⟨v1, rfl, o1, b1⟩
    have o1' := Lib.hid o1
    have b1' := Lib.hid b1
    clear o1 b1 hp1
    go_wp2_with fail
    refine (hp2.out w1).mono ?_
    intro e w2 h2
    obtain ⟨a2, c2, rfl, s2, b2⟩ := h2.open _ rfl
    clear hp2 h2
    go_wp2_with (at_builtin; refine made_append (w := w) (w1 := w1) rfl (.tmp 10) (.tmp 12) 30 rfl 5 i0 Try.underlying30 hi hz0 hz1 hz2 v1 L1 o1'.out b1'.out b2 a2 L2 L2.length c2 rfl s2 rfl rfl e1.out ?_; intro v3 w3 o3 b3; have o3' := Lib.hid o3; have b3' := Lib.hid b3; clear o3 b3)
    refine (hn.out w3).mono ?_
    rintro e w4 ⟨rfl, b4⟩
    have o4' := Lib.hid (own_below o3'.out b4)
    have b4' := Lib.hid (b3'.out.trans (b4.mono b3'.out.size))
    clear b4 hn b2 s2 o1' b1'
    go_wp2_with fail
    refine (hp3'.out w4).mono ?_
    intro e w5 h5
    obtain ⟨a5, c5, rfl, s5, b5⟩ := h5.open _ rfl
    clear hp3' h5
    go_wp2_with (at_builtin; refine made_append (w := w) (w1 := w4) rfl (.tmp 13) (.tmp 16) 30 rfl 5 i0 Try.underlying30 hi hz0 hz1 hz2 v3 (L1 ++ L2) o4'.out b4'.out b5 a5 L3 L3.length c5 rfl s5 rfl rfl e2.out ?_; intro v6 w6 o6 b6; have o6' := Lib.hid o6; have b6' := Lib.hid b6; clear o6 b6)
    go_ret
    exact ⟨_, rfl, o6'.out, b6'.out⟩
end Go.Proofs.Ytnekeflgdadbcaa
