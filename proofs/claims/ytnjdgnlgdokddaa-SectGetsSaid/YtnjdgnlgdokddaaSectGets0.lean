/- sect.Get: the walk. -/
import Derived.Test.YtnjdgnlgdokddaaSectGet
namespace Go.Proofs.Ytnjdgnlgdokddaa
open Go.RowKit
set_option linter.unusedVariables false
set_option linter.unusedSimpArgs false

theorem ixh (s : ByteArray) (k : Nat) (hk : k < s.size) (W : World) : (Instr.index 9 (.string s) (.int .i64 (k : Int))).run Try.prog W = .ok (.int .u8 ((codes s).getD k 0)) W := by
  rw [run_index_string W 9 s .i64 (k : Int) Try.underlying9, dif_pos ⟨by omega, by omega⟩, codes_at s k hk]
  simp
/-- What a Get hands back. -/
def GetS (R : List (Int × List Int) × Nat × Int) (w : World) (e : Ending) (w' : World) : Prop :=
  Below w.heap.size w w' ∧ ∃ (a : Option Addr) (c : Nat) (ls : List Sc), ls.map absS = R.1 ∧ e = .returned (.tuple #[.slice a ls.length c, .int .i64 (R.2.1 : Nat), .int .i64 R.2.2]) ∧ ls.length ≤ c ∧ ls.length ≤ 16 ∧ SecS w'.heap.size w' a ls
theorem gets_bad {R : List (Int × List Int) × Nat × Int} {w w' : World} (h1 : R.1 = []) (hb : Below w.heap.size w w') : GetS R w (.returned (.tuple #[.slice none 0 0, .int .i64 (R.2.1 : Nat), .int .i64 R.2.2])) w' :=
  ⟨hb, none, 0, [], by simp [h1], rfl, Nat.le_refl _, by simp, .inl rfl⟩

set_option maxRecDepth 100000 in
set_option maxHeartbeats 1000000 in
theorem sget_any (aB : Option Addr) (B : List Int) (nB cB : Nat) (hnB : nB = B.length) (hBl : nB ≤ 100000000) (hcB : nB ≤ cB) (hB : Bs B) (w : World) (hs : Sees .u8 w.heap.size w aB B) :
    Calls Try.prog 12 #[.slice aB nB cB] w (GetS (getAll B) w) := by
  have hnB' := Lib.hid hnB
  have hs' := Lib.hid hs
  have hBb := Lib.hid hB
  have hBi : (nB : Int) ≤ 100000000 := by omega
  clear hnB hs hB
  go_enter Try.func12, Try.ntmps12
  go_wp2
  go_loopw [11] (fun i wr => ∃ k : Nat, k ≤ 5 ∧ i = .int .i64 k ∧ Hid (∀ j, j < k → headOk B j = true) ∧ Hid (Below w.heap.size w wr)) (fun i _ => 5 - (intOf i).toNat)
  case atStart => exact ⟨0, by omega, rfl, Lib.hid (by intro j hj; omega), Lib.hid (Below.refl _ _)⟩
  case round =>
    obtain ⟨k, hk, rfl, hok, hbl⟩ := hrel
    by_cases hlt : k < 5
    · have hix := ixh ⟨#[65, 73, 82, 88, 1]⟩ k hlt
      rw [show codes ⟨#[65, 73, 82, 88, 1]⟩ = headL by rfl] at hix
      have hgood : Hid (headOk B k = true → ∀ j, j < k + 1 → headOk B j = true) := Lib.hid (fun h j hj => by
        by_cases e : j = k
        · subst e; exact h
        · exact hok.out j (by omega))
      have hbad : Hid (headOk B k = false → getAll B = ([], k, 40)) := Lib.hid (fun h => by
        unfold getAll; rw [head_some hlt hok.out h])
      by_cases hkn : k < nB
      · have hkB : k < B.length := by have := hnB'.out; omega
        obtain ⟨b, off, rfl, -, hcell⟩ : ∃ b off, aB = some ⟨b, off, none⟩ ∧ True ∧ wr.cell? ⟨b, off + k, none⟩ = some (.int .u8 (B.getD k 0)) := by
          rcases hs'.out.below hbl.out with h | ⟨b, off, ha, _, hc⟩
          · rw [h] at hkB; simp at hkB
          · exact ⟨b, off, ha, trivial, hc k hkB⟩
        by_cases hv : B.getD k 0 = headL.getD k 0
        · have hg2 := Lib.hid (hgood.out (by unfold headOk; rw [decide_eq_true hkB, hv]; simp))
          rw [hv] at hcell
          clear hgood hbad hkB hv hok
          generalize headL.getD k 0 = hv at *
          go_wp2
          go_quiet (fail)
          go_wp2
          go_roundw
          case rel => exact ⟨k + 1, by omega, by go_num, hg2, Lib.hid (Below.drewN hbl.out nq)⟩
          case measure => simp [intOf]; omega
        · have hne : (B.getD k 0 == headL.getD k 0) = false := by simpa using hv
          have hne2 : (B.getD k 0 != headL.getD k 0) = true := by simpa using hv
          have hR := Lib.hid (hbad.out (by unfold headOk; rw [hne]; simp))
          have hfin : Hid (∀ w1, Below w.heap.size w w1 → GetS (getAll B) w (.returned (.tuple #[.slice none 0 0, .int .i64 k, .int .i64 40])) w1) := Lib.hid (fun w1 hb => by rw [hR.out]; exact gets_bad rfl hb)
          clear hgood hbad hkB hv hok hR
          generalize headL.getD k 0 = hv at *
          generalize B.getD k 0 = bv at *
          go_wp2
          go_quiet (fail)
          go_wp2
          go_ret3
          exact hfin.out _ (Below.drewN hbl.out nq)
      · have hkB : ¬ k < B.length := by have := hnB'.out; omega
        have hR := Lib.hid (hbad.out (by unfold headOk; rw [decide_eq_false hkB]; simp))
        have hfin : Hid (∀ w1, Below w.heap.size w w1 → GetS (getAll B) w (.returned (.tuple #[.slice none 0 0, .int .i64 k, .int .i64 40])) w1) := Lib.hid (fun w1 hb => by rw [hR.out]; exact gets_bad rfl hb)
        have hkn2 : (nB : Int) ≤ (k : Int) := by omega
        clear hgood hbad hkB hok hR hix
        go_wp2
        go_quiet (fail)
        go_wp2
        go_ret3
        exact hfin.out _ (Below.drewN hbl.out nq)
    · have hR : Hid (getAll B = getG (B.length + 1) [] 5 B) := Lib.hid (by
        unfold getAll; rw [head_none (fun j hj => hok.out j (by omega))])
      have h5 : 5 ≤ nB := by
        have := hok.out 4 (by omega)
        unfold headOk at this
        rw [Bool.and_eq_true] at this
        have h6 := of_decide_eq_true this.1
        have := hnB'.out
        omega
      clear hok
      go_wp2
      clear hlt hk
      go_loopw [6, 7] (fun v i wr => ∃ (at_ f : Nat) (l : List Sc), at_ ≤ nB ∧ i = .int .i64 at_ ∧ Hid (SRow w wr v l) ∧ Hid (getG (f + 1) (l.map absS) at_ B = getAll B) ∧ nB - at_ ≤ f ∧ l.length ≤ 16 ∧ Hid (Below w.heap.size w wr)) (fun _ i _ => nB - (intOf i).toNat)
      case atStart => exact ⟨5, B.length, [], h5, rfl, Lib.hid ⟨⟨rfl, .inl ⟨rfl, rfl⟩⟩, by simp⟩, Lib.hid hR.out.symm, by have := hnB'.out; omega, by simp, hbl⟩
      case round =>
        obtain ⟨at_, f, l, hat, rfl, hrow, hG, hf, hl16, hB2⟩ := hrel
        by_cases hlt : at_ < nB
        · have hnBB := hnB'.out
          obtain ⟨al, cl, rfl, -, -, -, hsec⟩ := secs_own hrow.out.1 (fun s hs => (hrow.out.2 s hs).1) (Nat.le_refl _)
          obtain ⟨a', hsl, hse⟩ := ((hs'.out.below hB2.out).mono hB2.out.size).cut at_ nB cB (by omega) hat (by omega)
          rw [List.take_of_length_le (by omega)] at hse
          have gsl := slice_from hsl hat
          have hone := Lib.hid (one_any al l l.length cl rfl (by omega) a' (B.drop at_) (nB - at_) (cB - at_) (by simp; omega) (by omega) (by omega) (hBb.out.drop at_) wr hsec hse)
          have hdz : (B.drop at_).length = nB - at_ := by simp; omega
          have hstep : Hid (oneE (lastTag l) l.length (B.drop at_) ≠ 0 → getAll B = ([], at_, oneE (lastTag l) l.length (B.drop at_))) := Lib.hid (fun h => by
            rw [← hG.out, getG, if_pos (by omega)]
            rw [last_abs] at h
            rw [if_neg (by rw [List.length_map]; exact h), List.length_map, ← last_abs])
          have hstep2 : Hid (oneE (lastTag l) l.length (B.drop at_) = 0 → getG f (l.map absS ++ [((oneT (B.drop at_)).1, codes (oneX (B.drop at_)).1)]) (at_ + (oneW (B.drop at_)).2.1) B = getAll B) := Lib.hid (fun h => by
            rw [← hG.out, getG, if_pos (by omega)]
            rw [last_abs] at h
            rw [if_pos (by rw [List.length_map]; exact h)])
          have hok := Lib.hid (fun (h : oneE (lastTag l) l.length (B.drop at_) = 0) => oneE_ok h)
          have hbyt := Lib.hid (byteO_val (bs := oneBs (B.drop at_)) ((hBb.out.drop at_).take _) 0)
          have hxs := Lib.hid (textO_size (bs := oneBs (B.drop at_)) 1048576 (oneT (B.drop at_)).2.1 0)
          have hobs : Hid ((oneBs (B.drop at_)).length ≤ 100000000) := Lib.hid (by simp [oneBs]; omega)
          have hdz' := Lib.hid hdz
          have hnBB' := Lib.hid hnBB
          clear hsl hse hG hsec hdz hnBB
          go_wp2_with fail
          refine hone.out.mono ?_
          rintro en w2 ⟨b2, ⟨hE, g, c2, rfl, hgw, hc2, hs2⟩ | ⟨hE, rfl⟩⟩
          · obtain ⟨k1, k2, k3⟩ := hok.out hE
            have kN : at_ + (oneW (B.drop at_)).2.1 ≤ nB := by have := hdz'.out; omega
            have k1' : 1 ≤ (oneW (B.drop at_)).2.1 := by omega
            have hG2 := Lib.hid (hstep2.out hE)
            obtain ⟨W3, hW3⟩ : ∃ W3, W3 = w2.alloc (.cells #[.int .i64 (oneT (B.drop at_)).1, .slice (some ⟨g, 0, none⟩) (oneX (B.drop at_)).1.size c2] 39) := ⟨_, rfl⟩
            obtain ⟨W4, hW4⟩ : ∃ W4, W4 = W3.alloc (.cells #[.int .i64 (oneT (B.drop at_)).1, .slice (some ⟨g, 0, none⟩) (oneX (B.drop at_)).1.size c2] 39) := ⟨_, rfl⟩
            have b3 : Below w2.heap.size w2 W3 := by rw [hW3]; exact below_box _ _ _
            have b4 : Below W3.heap.size W3 W4 := by rw [hW4]; exact below_box _ _ _
            have b24 : Below w2.heap.size w2 W4 := b3.trans (b4.mono b3.size)
            have b04 : Below wr.heap.size wr W4 := b2.trans (b24.mono b2.size)
            have z3e : W3.heap.size = w2.heap.size + 1 := by rw [hW3]; simp
            have kc0 : W3.cell? ⟨w2.heap.size, 0, none⟩ = some (.int .i64 (oneT (B.drop at_)).1) := by rw [hW3]; simp [go_sem]
            have kc1 : W3.cell? ⟨w2.heap.size, 1, none⟩ = some (.slice (some ⟨g, 0, none⟩) (oneX (B.drop at_)).1.size c2) := by rw [hW3]; simp [go_sem]
            have ka0 : W4.cell? ((⟨w2.heap.size + 1, 0, none⟩ : Addr).add 0) = some (.int .i64 (oneT (B.drop at_)).1) := by rw [hW4, ← z3e, add_plain']; simp [go_sem]
            have ka1 : W4.cell? ((⟨w2.heap.size + 1, 0, none⟩ : Addr).add 1) = some (.slice (some ⟨g, 0, none⟩) (oneX (B.drop at_)).1.size c2) := by rw [hW4, ← z3e, add_plain']; simp [go_sem]
            have hs4 := (hs2.below b24).mono b24.size
            have hcl := codes_length (oneX (B.drop at_)).1
            have hsc : ScOK W4.heap.size W4 ⟨(oneT (B.drop at_)).1, some ⟨g, 0, none⟩, (oneX (B.drop at_)).1.size, c2, codes (oneX (B.drop at_)).1⟩ := by
              refine ⟨?_, hcl.symm, hc2, ?_, codes_bs _, hs4⟩
              · have h1 : 0 ≤ (oneT (B.drop at_)).1 ∧ (oneT (B.drop at_)).1 ≤ 255 := hbyt.out
                simp [Lit.wf, IntKind.min, IntKind.max, IntKind.signed, IntKind.bits]; omega
              · have h1 : (oneX (B.drop at_)).1.size ≤ (oneBs (B.drop at_)).length := hxs.out
                have h2 := hobs.out
                show (oneX (B.drop at_)).1.size ≤ maxLen
                unfold maxLen; omega
            have hrow4 := hrow.out.below b04
            have hse4 : ∀ k, (Value.slice al l.length cl).ownBlock = some k → SeesE [k] .u8 W4.heap.size W4 (some ⟨g, 0, none⟩) (codes (oneX (B.drop at_)).1) := by
              intro k hk
              have hkw := (hrow.out.1.lt k hk).2
              rcases hs4 with h | ⟨b, off, ha, hBB, hc⟩
              · exact .inl h
              · have hbg : b = g := by injection ha with ha; injection ha with ha; exact ha.symm
                exact .inr ⟨b, off, ha, hBB, by simp; omega, hc⟩
            have hBw4 := hB2.out.trans (b04.mono hB2.out.size)
            have hsc' := Lib.hid hsc
            have hrow4' := Lib.hid hrow4
            have hse4' := Lib.hid hse4
            have hBw4' := Lib.hid hBw4
            have hW3' := Lib.hid hW3
            have hW4' := Lib.hid hW4
            have ka0' := Lib.hid ka0
            have ka1' := Lib.hid ka1
            obtain ⟨f', rfl⟩ : ∃ f', f = f' + 1 := ⟨f - 1, by omega⟩
            clear hsc hrow4 hse4 hBw4 hW3 hW4 ka0 ka1 z3e k1 k2 kc0 kc1 b2 b3 b4 b24 b04 hs2 hs4 hcl hgw hstep hstep2 hok hone hE hrow hB2 hbyt hxs hobs
            generalize hTG : (oneT (B.drop at_)).1 = tg at *
            generalize hNN : (oneW (B.drop at_)).2.1 = NN at *
            generalize hSZ : (oneX (B.drop at_)).1.size = sz at *
            generalize hCD : codes (oneX (B.drop at_)).1 = cd at *
            clear hTG hNN hSZ hCD
            go_wp2_with (at_builtin; rw [← hW3'.out, ← hW4'.out]; refine wpList_append_sec (w0 := w) rfl (.tmp 46) (.tmp 48) rfl _ l ⟨tg, some ⟨g, 0, none⟩, sz, c2, cd⟩ hrow4'.out hBw4'.out ⟨w2.heap.size + 1, 0, none⟩ 1 ka0'.out ka1'.out hsc'.out hse4'.out rfl rfl (by omega) ?_; intro v5 w5 r5 b5; have r5' := Lib.hid r5; have b5' := Lib.hid b5; clear r5 b5)
            exact ⟨⟨at_ + NN, f', l ++ [⟨tg, some ⟨g, 0, none⟩, sz, c2, cd⟩], kN, by go_num, r5', Lib.hid (by simpa [absS] using hG2.out), by omega, by simp; omega, b5'⟩, by simp [intOf]; omega⟩
          · have hR2 := Lib.hid (hstep.out hE)
            have hB3 := Lib.hid (hB2.out.trans (b2.mono hB2.out.size))
            have hfin : Hid (∀ w1, Below w2.heap.size w2 w1 → GetS (getAll B) w (.returned (.tuple #[.slice none 0 0, .int .i64 at_, .int .i64 (oneE (lastTag l) l.length (B.drop at_))])) w1) := Lib.hid (fun w1 hb => by rw [hR2.out]; exact gets_bad rfl (hB3.out.trans (hb.mono hB3.out.size)))
            have b3' := Lib.hid (below_box w2 #[.int .i64 0, .slice none 0 0] 39)
            clear hstep hstep2 hok hone hrow hB2 hbyt hxs hobs b2 hR2 hdz'
            generalize oneE (lastTag l) l.length (B.drop at_) = y at *
            have y1 : (y == 0) = false := by simpa using hE
            have y2 : (y != 0) = true := by simpa using hE
            go_wp2
            go_ret3
            exact hfin.out _ b3'.out
        · obtain ⟨al, cl, rfl, -, hcl, -, hsec⟩ := secs_own hrow.out.1 (fun s hs => (hrow.out.2 s hs).1) (Nat.le_refl _)
          have hfin : Hid (GetS (getAll B) w (.returned (.tuple #[.slice al l.length cl, .int .i64 nB, .int .i64 0])) wr) := Lib.hid (by
            have hnBB := hnB'.out
            have : getAll B = (l.map absS, B.length, 0) := by rw [← hG.out, getG, if_neg (by omega)]
            rw [this]
            exact ⟨hB2.out, al, cl, l, rfl, by rw [hnBB], hcl, hl16, hsec⟩)
          clear hrow hsec hcl hG
          go_wp2
          go_ret3
          exact hfin.out
end Go.Proofs.Ytnjdgnlgdokddaa
