/- strs.Put. -/
import Derived.Test.YtkfgfbdlbiahkaaStrsRound
import Derived.Test.YtkfgfbdlbiahkaaDrawn
namespace Go.Proofs.Ytkfgfbdlbiahkaa
open Go.RowKit
set_option linter.unusedVariables false
set_option linter.unusedSimpArgs false

/-- What strs.Put hands back. -/
def PutsT (l : List ByteArray) (w : World) (e : Ending) (w' : World) : Prop :=
  Below w.heap.size w w' ∧ ((checkT l = 0 ∧ ∃ a c, e = .returned (.tuple #[.slice a (putT l).length c, .int .i64 0]) ∧ (putT l).length ≤ c ∧ Sees .u8 w'.heap.size w' a (putT l)) ∨
    (checkT l ≠ 0 ∧ e = .returned (.tuple #[.slice none 0 0, .int .i64 (checkT l)])))
theorem put_len {l : List ByteArray} (h : checkT l = 0) {k : Nat} (hk : k ≤ l.length) : (leb l.length ++ bodyT e0 (l.take k)).length ≤ 2000000 := by
  obtain ⟨h1, h2, -⟩ := check_small h
  have q1 := body_len 256 (by omega) (l := l.take k) e0 (fun s hs => h2 s (List.mem_of_mem_take hs))
  have q2 := leb_len64 (n := l.length) (by omega)
  have q4 : (l.take k).length ≤ 4096 := by simp; omega
  have q5 : (l.take k).length * (256 + 20) ≤ 4096 * (256 + 20) := Nat.mul_le_mul_right _ q4
  rw [List.length_append]
  omega
theorem tail_run (s : ByteArray) (k : Nat) (h : k ≤ s.size) (W : World) : (Instr.slice 9 (.string s) (some (.int .i64 (k : Int))) none none).run Try.prog W = .ok (.string (tailT s k)) W := by
  have := run_slice_string_l W 9 s Try.underlying9 .i64 (k : Int) (by omega) (by omega)
  simpa [tailT] using this
set_option maxRecDepth 100000 in
set_option maxHeartbeats 4000000 in
theorem tput_any (a : Option Addr) (n c : Nat) (l : List ByteArray) (hn : n ≤ 9223372036854775806) (w : World) (h : TT w a n c l) :
    Calls Try.prog 8 #[.slice a n c] w (PutsT l w) := by
  have hq := Lib.hid (check_any a n c l hn w h)
  by_cases hc0 : checkT l = 0
  · obtain ⟨hlen, hM, -⟩ := check_small hc0
    rw [hc0] at hq
    have hc0' := Lib.hid hc0
    have hT := Lib.hid h
    have hM' := Lib.hid hM
    have hnl := Lib.hid h.len
    have hn' : n ≤ 4096 := by rw [h.len]; exact hlen
    have hni : (n : Int) ≤ 4096 := by omega
    have hpl := Lib.hid (fun k hk => put_len hc0 (k := k) hk)
    clear h hM hc0 hn hlen
    go_enter Try.func8, Try.ntmps8
    go_wp2_with fail
    refine hq.out.mono ?_
    rintro e w1 ⟨rfl, m, rfl⟩
    clear hq
    go_wp2_with fail
    refine (new_any _).mono ?_
    rintro e w2 ⟨g, F, rfl, hP, hB, hF⟩
    have hB' := Lib.hid (Go.Proofs.Ytkfgfbdlbiahkaa.Below.fromDrewN m hB)
    have hF' : Hid (∀ x ∈ F, w.heap.size ≤ x) := Lib.hid hF
    have hu := Lib.hid (pu_any g F [] (n : Int) w2 hP (by omega) (by unfold U64; omega) (by simp))
    clear hP hB hF
    simp only [Int.toNat_natCast, List.nil_append] at hu
    go_wp2_with fail
    refine hu.out.mono ?_
    rintro e w3 ⟨rfl, F1, p1, t1⟩
    obtain ⟨b1, f1⟩ := t1.allS hB'.out hF'.out
    have p1' := Lib.hid p1
    have b1' := Lib.hid b1
    have f1' := Lib.hid f1
    clear p1 b1 f1 t1 hB' hF' hu
    go_wp2
    go_loopw [6, 23] (fun v i wr => ∃ (k : Nat) (F : List Nat), k ≤ n ∧ v = .string (lastT (l.take k)) ∧ i = .int .i64 k ∧ Hid (Pn wr g F (leb n ++ bodyT e0 (l.take k))) ∧ Hid (Below w.heap.size w wr) ∧ Hid (∀ x ∈ F, w.heap.size ≤ x)) (fun _ i _ => n - (intOf i).toNat)
    case atStart => exact ⟨0, F1, Nat.zero_le _, rfl, rfl, Lib.hid (by simpa [bodyT] using p1'.out), b1', f1'⟩
    case round =>
      obtain ⟨k, F, hk, rfl, rfl, hp, hB, hF⟩ := hrel
      by_cases hlt : k < n
      · have hki : (k : Int) < (n : Int) := by omega
        have hkl : k < l.length := by have := hnl.out; omega
        obtain ⟨b, off, rfl, -, hc⟩ := (hT.out.below hB.out).at_ hkl
        have i0 := hc k hkl
        have hmem : l.getD k e0 ∈ l := by simp [List.getD, hkl]
        have hsz := hM'.out _ hmem
        have hlsz : (lastT (l.take k)).size ≤ 256 := by
          rcases List.eq_nil_or_concat (l.take k) with e | ⟨x, y, e⟩
          · rw [e]; simp [lastT, ByteArray.size]
          · rw [e]; simp only [lastT, List.concat_eq_append, List.getLast?_append, List.getLast?_singleton, Option.some_or, Option.getD_some]
            exact hM'.out y (List.mem_of_mem_take (by rw [e]; simp))
        have hst := Lib.hid (body_step hkl)
        have hls := Lib.hid (last_step hkl)
        have hpk := Lib.hid (hpl.out k (by omega))
        rw [← hnl.out] at hpk
        clear hc hmem hkl
        generalize l.getD k e0 = s at *
        generalize lastT (l.take k) = la at *
        have hal := alike_sz la s
        have hal2 := Lib.hid (fun W => alike_any la s (by omega) (by omega) W)
        have htl := tail_run s (alikeL (byt la) (byt s)) hal.2
        have htz := Lib.hid (tail_size s (alikeL (byt la) (byt s)))
        have hst2 : Hid (∀ X : List Int, X ++ (leb (alikeL (byt la) (byt s)) ++ txtL (tailT s (alikeL (byt la) (byt s)))) = X ++ oneT la s) := Lib.hid (fun X => rfl)
        have hal3 : alikeL (byt la) (byt s) ≤ 256 := by omega
        have hlb := Lib.hid (leb_len64 (n := alikeL (byt la) (byt s)) (by omega))
        generalize oneT la s = O at *
        generalize tailT s (alikeL (byt la) (byt s)) = ts at *
        generalize alikeL (byt la) (byt s) = q at *
        have hX := Lib.hid hsz
        clear hal hlsz hsz
        go_wp2_with fail
        refine (hal2.out _).mono ?_
        rintro e w1 ⟨rfl, m1, rfl⟩
        have hp1 := Lib.hid (hp.out.below (drewN_below wr m1))
        have hB1 := Lib.hid (Below.drewN hB.out m1)
        have hu := Lib.hid (pu_any g F _ (q : Int) _ hp1.out (by omega) (by unfold U64; omega) (by have := hpk.out; omega))
        simp only [Int.toNat_natCast] at hu
        clear hal2 hp hB
        go_wp2_with fail
        refine hu.out.mono ?_
        rintro e w4 ⟨rfl, F4, p4, t4⟩
        obtain ⟨b4, f4⟩ := t4.allS hB1.out hF.out
        have hx := Lib.hid (ptext_any g F4 _ ts w4 p4 (by have := htz.out; have := hX.out; omega) (by have := hpk.out; have := hlb.out; rw [List.length_append]; omega) (by have := hpk.out; have := htz.out; have := hlb.out; have := hX.out; rw [List.length_append]; omega))
        have b4' := Lib.hid b4
        have f4' := Lib.hid f4
        clear p4 b4 f4 t4 hu hp1 hB1 hF
        go_wp2_with fail
        refine hx.out.mono ?_
        rintro e w5 ⟨rfl, F5, p5, t5⟩
        obtain ⟨b5, f5⟩ := t5.allS b4'.out f4'.out
        have p5' := Lib.hid p5
        have b5' := Lib.hid b5
        have f5' := Lib.hid f5
        clear p5 b5 f5 t5 hx b4' f4'
        go_wp2
        go_roundw
        case rel => exact ⟨k + 1, F5, by omega, by rw [hls.out], by go_num, Lib.hid (by rw [hst.out, ← List.append_assoc, ← hst2.out]; have := p5'.out; rwa [List.append_assoc] at this), b5', f5'⟩
        case measure => simp [intOf]; omega
      · have hki : ¬ (k : Int) < (n : Int) := by omega
        have hke : k = l.length := by have := hnl.out; omega
        have hy := Lib.hid (pbytes_any g F _ wr hp.out (by have := hpl.out k (by omega); have := hnl.out; rw [this]; omega))
        rw [List.take_of_length_le (by omega), hnl.out, show leb l.length ++ bodyT e0 l = putT l from rfl] at hy
        clear hke hlt
        go_wp2_with fail
        refine hy.out.mono ?_
        intro e w6 h6
        obtain ⟨a6, c6, rfl, s6, b6, hc6⟩ := h6.openc _ rfl
        have hfin : Hid (PutsT l w (.returned (.tuple #[.slice a6 (putT l).length c6, .int .i64 0])) w6) := Lib.hid ⟨hB.out.trans (b6.mono hB.out.size), .inl ⟨hc0'.out, a6, c6, rfl, hc6, s6⟩⟩
        clear h6 s6 b6 hy hc6
        go_wp2
        go_ret2
        exact hfin.out
  · have hcb : (checkT l != 0) = true := by simpa using hc0
    have hfin : Hid (∀ m, PutsT l w (.returned (.tuple #[.slice none 0 0, .int .i64 (checkT l)])) (w.drewN m)) := Lib.hid (fun m => ⟨drewN_below w m, .inr ⟨hc0, rfl⟩⟩)
    clear h hc0
    generalize checkT l = x at *
    go_enter Try.func8, Try.ntmps8
    go_wp2_with fail
    refine hq.out.mono ?_
    rintro e w1 ⟨rfl, m, rfl⟩
    go_wp2
    go_ret2
    exact hfin.out m
end Go.Proofs.Ytkfgfbdlbiahkaa
