/- The document's reader: Count and Text. -/
import Derived.Test.YtnjdgnlgdokddaaCurRef
namespace Go.Proofs.Ytnjdgnlgdokddaa
open Go.RowKit
set_option linter.unusedVariables false

theorem rcount_any (r : Nat) (a : Option Addr) (cap : Nat) (bs : List Int) (p : Nat) (e m : Int) (hm : m ≤ 9223372036854775807) (w : World) (h : Rf w r a cap bs p e) :
    Calls Try.prog 65 #[.pointer (some ⟨r, 0, none⟩), .int .i64 m] w (RestsF (.int .i64 (countO m bs p e).1) r a cap bs (countO m bs p e).2.1 (countO m bs p e).2.2 w) := by
  have c1 := h.blk.cell 1
  simp at c1
  have hu := ru_any r a cap bs p e w h
  have hq := uO_at h.byt h.at_ e
  have hv : (uO bs p e).2.2 = 0 → 0 ≤ (uO bs p e).1 ∧ (uO bs p e).1 ≤ 18446744073709551615 := by
    intro _
    by_cases he : e = 0
    · subst he
      rcases uO_cases h.byt h.at_ with ⟨hs, _⟩ | ⟨hs, _⟩ | ⟨n, j, hs, _, h0, h1, _⟩ <;> rw [hs] <;> simp <;> omega
    · simp [uO, he]
  have hez : (uO bs p e).2.2 ≠ 0 → (uO bs p e).1 = 0 := by
    intro hne
    by_cases he : e = 0
    · subst he
      rcases uO_cases h.byt h.at_ with ⟨hs, _⟩ | ⟨hs, _⟩ | ⟨n, j, hs, _, h0, h1, _⟩ <;> rw [hs] at hne ⊢ <;> simp at hne ⊢
    · simp [uO, he]
  have he0 : (uO bs p e).2.2 = 0 → e = 0 := by
    intro h0
    by_cases he : e = 0
    · exact he
    · rw [show (uO bs p e).2.2 = e by simp [uO, he]] at h0; exact h0
  have hco : countO m bs p e = if (uO bs p e).2.2 = 0 ∧ (m < 0 ∨ m < (uO bs p e).1) then (0, p, 3) else uO bs p e := by
    unfold countO
    by_cases h0 : (uO bs p e).2.2 = 0
    · simp [he0 h0]
    · simp [h0]
  rw [hco]
  generalize uO bs p e = o at *
  obtain ⟨v, q, y⟩ := o
  simp only at hu hv hez he0 hq hco ⊢
  have hu' := Lib.hid hu
  have hfail := Lib.hid (fun (w' : World) (h1 : MovedF r a cap bs q y w w') (h2 : Rf (w'.setCell ⟨r, 1, none⟩ (.int .i64 p)) r a cap bs p y) => rfail_any r a cap bs p y 3 _ h2)
  have hmv := Lib.hid (fun (w' : World) (h1 : MovedF r a cap bs q y w w') => h.moved h1 hq)
  have hp := Lib.hid h.at_
  clear hu h hco hq
  by_cases hy : y = 0
  · subst hy
    obtain ⟨hv0, hv1⟩ := hv rfl
    clear hez he0 hv
    by_cases hlong : m < 0 ∨ m < v
    · rw [if_pos ⟨rfl, hlong⟩]
      have fin : ∀ w', MovedF r a cap bs q 0 w w' → Rf (w'.setCell ⟨r, 1, none⟩ (.int .i64 p)) r a cap bs p 0 := by
        intro w' h1
        have h2 := hmv.out w' h1
        have h3 := h2.blk.set 1 (.int .i64 p)
        simp at h3
        exact ⟨h3, (h2.sees.belowE ((BelowE.refl _ _ _).setIn (p := ⟨r, 1, none⟩) (List.mem_singleton.2 rfl) _)).mono (by simp [World.setCell]), h2.byt, h2.len, h2.cap, hp.out⟩
      have fin' := Lib.hid fin
      clear fin
      by_cases hm0 : m < 0
      · clear hlong
        go_enter Try.func65, Try.ntmps65
        go_wp2_with fail
        refine hu'.out.mono ?_
        rintro e w' ⟨rfl, hmo⟩
        have k2 := hmo.1.cell 2
        have k1 := hmo.1.cell 1
        have kf := hmo.1.free 1
        simp at k1 k2
        go_wp2_with fail
        refine (hfail.out w' hmo (fin'.out w' hmo)).mono ?_
        rintro e w2 ⟨rfl, g1, g2⟩
        go_wp2
        go_ret
        exact ⟨rfl, by simpa [failO] using g1, (hmo.2.setIn (p := ⟨r, 1, none⟩) (List.mem_singleton.2 rfl) _).trans (g2.mono (by simpa [World.setCell] using hmo.2.size))⟩
      · have hlt : m < v := by omega
        have hm1 : 0 ≤ m := by omega
        clear hlong hm0
        go_enter Try.func65, Try.ntmps65
        go_wp2_with fail
        refine hu'.out.mono ?_
        rintro e w' ⟨rfl, hmo⟩
        have k2 := hmo.1.cell 2
        have k1 := hmo.1.cell 1
        have kf := hmo.1.free 1
        simp at k1 k2
        go_wp2_with fail
        refine (hfail.out w' hmo (fin'.out w' hmo)).mono ?_
        rintro e w2 ⟨rfl, g1, g2⟩
        go_wp2
        go_ret
        exact ⟨rfl, by simpa [failO] using g1, (hmo.2.setIn (p := ⟨r, 1, none⟩) (List.mem_singleton.2 rfl) _).trans (g2.mono (by simpa [World.setCell] using hmo.2.size))⟩
    · rw [if_neg (by simpa using hlong)]
      have hm0 : 0 ≤ m := by omega
      have hle : v ≤ m := by omega
      clear hlong
      go_enter Try.func65, Try.ntmps65
      go_wp2_with fail
      refine hu'.out.mono ?_
      rintro e w' ⟨rfl, hmo⟩
      have k2 := hmo.1.cell 2
      simp at k2
      go_wp2
      go_ret
      exact ⟨rfl, hmo⟩
  · rw [if_neg (by simp [hy])]
    have hvz := hez hy
    subst hvz
    have hy1 : (y != 0) = true := by simpa using hy
    clear hez he0 hv
    go_enter Try.func65, Try.ntmps65
    go_wp2_with fail
    refine hu'.out.mono ?_
    rintro e w' ⟨rfl, hmo⟩
    have k2 := hmo.1.cell 2
    simp at k2
    go_wp2
    go_ret
    exact ⟨rfl, hmo⟩

theorem rtext_any (r : Nat) (a : Option Addr) (cap : Nat) (bs : List Int) (p : Nat) (e m : Int) (hm : m ≤ 9223372036854775807) (w : World) (h : Rf w r a cap bs p e) :
    Calls Try.prog 32 #[.pointer (some ⟨r, 0, none⟩), .int .i64 m] w (RestsF (.string (textO m bs p e).1) r a cap bs (textO m bs p e).2.1 (textO m bs p e).2.2 w) := by
  have c1 := h.blk.cell 1
  simp at c1
  have hcnt := rcount_any r a cap bs p e m hm w h
  have hq := countO_at h.byt h.at_ m e
  have hl := h.len
  unfold maxLen at hl
  have hv : (countO m bs p e).2.2 = 0 → 0 ≤ (countO m bs p e).1 ∧ (countO m bs p e).1 ≤ 9223372036854775807 := by
    unfold countO
    split
    · simp
    · intro h0
      by_cases he : e = 0
      · subst he
        rename_i hn
        rcases uO_cases h.byt h.at_ with ⟨hs, _⟩ | ⟨hs, _⟩ | ⟨n, j, hs, _, h0, h1, _⟩ <;> rw [hs] at hn ⊢ <;> simp at hn ⊢
        omega
      · simp [uO, he] at h0
  have hpq : (countO m bs p e).2.2 ≠ 0 → (countO m bs p e).2.1 = p := by
    unfold countO
    split
    · simp
    · intro h0
      by_cases he : e = 0
      · subst he
        rcases uO_cases h.byt h.at_ with ⟨hs, _⟩ | ⟨hs, _⟩ | ⟨n, j, hs, _, _, _, _⟩ <;> rw [hs] at h0 ⊢ <;> simp at h0 ⊢
      · simp [uO, he]
  have hto : textO m bs p e = if (countO m bs p e).2.2 = 0 then (if (countO m bs p e).2.1 + (countO m bs p e).1.toNat ≤ bs.length then (strOfNums ((bs.drop (countO m bs p e).2.1).take (countO m bs p e).1.toNat), (countO m bs p e).2.1 + (countO m bs p e).1.toNat, 0) else (⟨#[]⟩, p, 10)) else (⟨#[]⟩, p, (countO m bs p e).2.2) := rfl
  rw [hto]
  generalize countO m bs p e = o at *
  obtain ⟨v, q, y⟩ := o
  simp only at hcnt hq hv hpq ⊢
  clear hto
  have hcnt' := Lib.hid hcnt
  have hmv := fun (w' : World) (h1 : MovedF r a cap bs q y w w') => h.moved h1 hq
  have hp := h.at_
  have hcap := h.cap
  clear hcnt
  by_cases hy : y = 0
  · subst hy
    obtain ⟨hv0, hv1⟩ := hv rfl
    obtain ⟨n, rfl⟩ := Int.eq_ofNat_of_zero_le hv0
    clear hv hpq
    simp only [Int.toNat_natCast, if_true]
    by_cases hfit : q + n ≤ bs.length
    · rw [if_pos hfit]
      obtain ⟨a', hs1, hs2⟩ := h.sees.cut q (q + n) cap (by omega) (by omega) h.cap
      rw [show q + n - q = n by omega] at hs1
      have htake := Lib.hid (fun w' (hmo : MovedF r a cap bs q 0 w w') => rtake_ok r a cap bs q n a' w' (hmv w' hmo) hfit hs1)
      have hl2 : List.drop q (List.take (q + n) bs) = (bs.drop q).take n := by rw [List.drop_take]; congr 1; omega
      rw [hl2] at hs2
      have hlen : ((bs.drop q).take n).length = n := by simp; omega
      have hcv : Hid (∀ w', BelowE [r] w.heap.size w w' → (convert 25 9 (.slice a' n (cap - q))).run Try.prog w' = .ok (.string (strOfNums ((bs.drop q).take n))) w') :=
        Lib.hid fun w' hb => conv_sees _ 9 5 Try.underlying25 Try.underlying5 Try.underlying9 (hs2.belowE hb).sees n _ hlen.symm
      have hlt : decide ((bs.length : Int) - (q : Int) < (n : Int)) = false := by simp; omega
      clear hs2 hlen hl2 hs1 h hmv hv0
      generalize strOfNums ((bs.drop q).take n) = s at *
      go_enter Try.func32, Try.ntmps32
      go_wp2_with fail
      refine hcnt'.out.mono ?_
      rintro e w' ⟨rfl, hmo⟩
      have k0 := hmo.1.cell 0
      have k1 := hmo.1.cell 1
      have k2 := hmo.1.cell 2
      simp at k0 k1 k2
      go_wp2
      go_quiet (fail)
      go_wp2_with fail
      have hmo' : MovedF r a cap bs q 0 w (w'.drewN nq) := ⟨hmo.1.drewN nq, hmo.2.drewN nq⟩
      refine (htake.out _ hmo').mono ?_
      rintro e w2 ⟨rfl, g1, g2⟩
      have hb := hmo'.2.trans (g2.mono hmo'.2.size)
      have hc2 := hcv.out w2 hb
      go_wp2
      go_ret
      exact ⟨rfl, g1, hb⟩
    · rw [if_neg hfit]
      have hlt : decide ((bs.length : Int) - (q : Int) < (n : Int)) = true := by simp; omega
      have fin : ∀ w' m, MovedF r a cap bs q 0 w w' → Rf ((w'.drewN m).setCell ⟨r, 1, none⟩ (.int .i64 p)) r a cap bs p 0 := by
        intro w' m h1
        have h2 := (hmv w' h1).drewN m
        have h3 := h2.blk.set 1 (.int .i64 p)
        simp at h3
        exact ⟨h3, (h2.sees.belowE ((BelowE.refl _ _ _).setIn (p := ⟨r, 1, none⟩) (List.mem_singleton.2 rfl) _)).mono (by simp [World.setCell]), h2.byt, h2.len, h2.cap, hp⟩
      have hfail := Lib.hid (fun w' m hmo => rfail_any r a cap bs p 0 10 _ (fin w' m hmo))
      clear fin hmv h hfit hv0
      go_enter Try.func32, Try.ntmps32
      go_wp2_with fail
      refine hcnt'.out.mono ?_
      rintro e w' ⟨rfl, hmo⟩
      have k0 := hmo.1.cell 0
      have k1 := hmo.1.cell 1
      have k2 := hmo.1.cell 2
      have kf := hmo.1.free 1
      simp at k0 k1 k2
      go_wp2
      go_quiet (fail)
      go_wp2_with fail
      refine (hfail.out w' nq hmo).mono ?_
      rintro e w2 ⟨rfl, g1, g2⟩
      go_wp2
      go_ret
      exact ⟨rfl, by simpa [failO] using g1, ((hmo.2.drewN nq).setIn (p := ⟨r, 1, none⟩) (List.mem_singleton.2 rfl) _).trans (g2.mono (by simpa [World.setCell, World.drewN] using hmo.2.size))⟩
  · rw [if_neg hy]
    have hqp := hpq hy
    subst hqp
    have hy1 : (y != 0) = true := by simpa using hy
    clear hv hpq hmv h
    go_enter Try.func32, Try.ntmps32
    go_wp2_with fail
    refine hcnt'.out.mono ?_
    rintro e w' ⟨rfl, hmo⟩
    have k2 := hmo.1.cell 2
    simp at k2
    go_wp2
    go_ret
    exact ⟨rfl, hmo⟩
end Go.Proofs.Ytnjdgnlgdokddaa
