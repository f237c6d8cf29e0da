/- Sections' bytes: the document's Put, sect.Put. -/
import Derived.Test.YtnjdgnlgdokddaaSectPut
namespace Go.Proofs.Ytnjdgnlgdokddaa
open Go.RowKit
set_option linter.unusedVariables false
set_option linter.unusedSimpArgs false

theorem bodyL_step {l : List Sc} {k : Nat} (hk : k < l.length) : bodyL ((l.take (k + 1)).map absS) = bodyL ((l.take k).map absS) ++ oneL (l.getD k sc0).tag (l.getD k sc0).b := by
  rw [List.take_succ_eq_append_getElem hk, List.map_append]
  unfold bodyL
  rw [List.flatMap_append]
  simp [List.getD, hk, absS]
theorem bodyL_len (M : Nat) (hM : M ≤ 100000000) : ∀ {l : List Sc}, (∀ s ∈ l, s.b.length ≤ M) → (bodyL (l.map absS)).length ≤ l.length * (M + 15) := by
  intro l
  induction l with
  | nil => intro _; simp [bodyL]
  | cons s l ih =>
    intro h
    have h1 := ih (fun x hx => h x (by simp [hx]))
    have h2 := (oneL_len s.tag s.b (by have := h s (by simp); omega)).1
    have h3 := h s (by simp)
    have e : bodyL ((s :: l).map absS) = oneL s.tag s.b ++ bodyL (l.map absS) := by simp [bodyL, absS]
    rw [e, List.length_append, List.length_cons, Nat.add_mul]
    omega
theorem bodyL_bs {l : List Sc} (h : ∀ s ∈ l, Bs s.b) : Bs (bodyL (l.map absS)) := by
  intro x hx
  unfold bodyL at hx
  rw [List.mem_flatMap] at hx
  obtain ⟨y, hy, hx⟩ := hx
  obtain ⟨s, hs, rfl⟩ := List.mem_map.1 hy
  exact oneL_bs s.tag (h s hs) x hx
theorem putL_bs {l : List Sc} (h : ∀ s ∈ l, Bs s.b) : Bs (putL (l.map absS)) := by
  intro x hx
  rcases List.mem_append.1 hx with hx | hx
  · simp only [headL, List.mem_cons, List.not_mem_nil, or_false] at hx
    rcases hx with rfl | rfl | rfl | rfl | rfl <;> omega
  · exact bodyL_bs h x hx

set_option maxRecDepth 100000 in
set_option maxHeartbeats 2000000 in
theorem rput_any (r : Option Addr) (l : List Sc) (n c : Nat) (hn : n = l.length) (hl : n ≤ 1000) (hM : ∀ s ∈ l, s.b.length ≤ 2000000) (w : World) (h : SecS w.heap.size w r l) :
    Calls Try.prog 13 #[.slice r n c] w (Made 5 .u8 w (putL (l.map absS))) := by
  obtain ⟨i0, hi, hz0, hz1, hz2⟩ := info_parts infoU8
  have hh := Lib.hid (head_any w)
  have hn' := Lib.hid hn
  have h' := Lib.hid h
  have hM' := Lib.hid hM
  have hli : (n : Int) ≤ 1000 := by omega
  clear h hn hM
  go_enter Try.func13, Try.ntmps13
  go_wp2_with fail
  refine hh.out.mono ?_
  rintro e w1 ⟨v1, rfl, o1, b1⟩
  have o1' := Lib.hid o1
  have b1' := Lib.hid b1
  clear o1 b1 hh
  go_wp2
  go_loopw [3, 4] (fun v i wr => ∃ k : Nat, k ≤ n ∧ i = .int .i64 k ∧ Hid (wr.ownsRow w.heap.size 5 1 v (headL ++ bodyL ((l.take k).map absS)).length (nums .u8 (headL ++ bodyL ((l.take k).map absS)))) ∧ Hid (Below w.heap.size w wr)) (fun _ i _ => n - (intOf i).toNat)
  case atStart => exact ⟨0, Nat.zero_le _, rfl, Lib.hid (by simpa [bodyL] using o1'.out), b1'⟩
  case round =>
    obtain ⟨k, hk, rfl, hown, hB⟩ := hrel
    by_cases hlt : k < n
    · have hkl : k < l.length := by have := hn'.out; omega
      obtain ⟨b, off, rfl, -, e1, e2, ok⟩ := (h'.out.below hB.out).at_ hkl
      have hmem : l.getD k sc0 ∈ l := by simp [List.getD, hkl]
      have hone := Lib.hid (rone_any (l.getD k sc0) wr (ok.mono hB.out.size) (by have := hM'.out _ hmem; omega))
      have hst := Lib.hid (bodyL_step hkl)
      have hlen : Hid ((headL ++ bodyL ((l.take k).map absS)).length + (oneL (l.getD k sc0).tag (l.getD k sc0).b).length ≤ 140737488355328) := Lib.hid (by
        have q1 := bodyL_len 2000000 (by omega) (l := l.take k) (fun s hs => hM'.out s (List.mem_of_mem_take hs))
        have q2 := (oneL_len (l.getD k sc0).tag (l.getD k sc0).b (by have := hM'.out _ hmem; omega)).1
        have q3 := hM'.out _ hmem
        have q4 : (l.take k).length ≤ 1000 := by simp; omega
        have q5 : (l.take k).length * (2000000 + 15) ≤ 1000 * (2000000 + 15) := Nat.mul_le_mul_right _ q4
        rw [List.length_append]
        simp only [headL, List.length_cons, List.length_nil]
        omega)
      clear ok hmem hkl
      generalize oneL (l.getD k sc0).tag (l.getD k sc0).b = O at *
      generalize (l.getD k sc0).tag = tg at *
      generalize (l.getD k sc0).a = ad at *
      generalize (l.getD k sc0).m = mm at *
      generalize (l.getD k sc0).c = cc at *
      go_wp2_with fail
      refine hone.out.mono ?_
      intro e w2 h2
      obtain ⟨a2, c2, rfl, s2, b2⟩ := h2.open _ rfl
      clear h2 hone
      go_wp2_with (at_builtin; refine made_append (w := w) (w1 := wr) rfl (.tmp 12) (.tmp 17) 25 rfl 5 i0 Try.underlying25 hi hz0 hz1 hz2 _ (headL ++ bodyL ((l.take k).map absS)) hown.out hB.out b2 a2 O O.length c2 rfl s2 rfl rfl hlen.out ?_; intro v3 w3 o3 b3; have o3' := Lib.hid o3; have b3' := Lib.hid b3; clear o3 b3)
      go_roundw
      case rel => exact ⟨k + 1, by omega, by go_num, Lib.hid (by rw [hst.out, ← List.append_assoc]; exact o3'.out), b3'⟩
      case measure => simp [intOf]; omega
    · have hfin : Hid (Made 5 .u8 w (putL (l.map absS)) (.returned u3) wr) := Lib.hid (by
        have := hown.out
        rw [List.take_of_length_le (by have := hn'.out; omega)] at this
        exact ⟨_, rfl, this, hB.out⟩)
      go_wp2
      go_ret
      exact hfin.out

/-- What sect.Put hands back. -/
def PutsS (l : List Sc) (w : World) (e : Ending) (w' : World) : Prop :=
  Below w.heap.size w w' ∧ ((checkL (l.map absS) = 0 ∧ ∃ a c, e = .returned (.tuple #[.slice a (putL (l.map absS)).length c, .int .i64 0]) ∧ (putL (l.map absS)).length ≤ c ∧ Sees .u8 w'.heap.size w' a (putL (l.map absS))) ∨
    (checkL (l.map absS) ≠ 0 ∧ e = .returned (.tuple #[.slice none 0 0, .int .i64 (checkL (l.map absS))])))
theorem Turns.allS {W w w' : World} {F F' : List Nat} (h : Turns F F' w w') (hb : Below W.heap.size W w) (hF : ∀ x ∈ F, W.heap.size ≤ x) : Below W.heap.size W w' ∧ ∀ x ∈ F', W.heap.size ≤ x :=
  ⟨hb.trans ((h.1.mono hb.size).toBelow hF), fun x hx => (h.2 x hx).elim (hF x) (fun h => Nat.le_trans hb.size h)⟩
theorem check_len {l : List Sc} {B : Nat} {w : World} (hok : ∀ s ∈ l, ScOK B w s) (h : checkL (l.map absS) = 0) : l.length ≤ 16 ∧ ∀ s ∈ l, s.b.length ≤ 1048576 := by
  unfold checkL at h
  by_cases h1 : 16 < (l.map absS).length
  · rw [if_pos h1] at h; omega
  rw [if_neg h1] at h
  by_cases h2 : (l.map absS).any (fun s => decide (1048576 < s.2.length)) = true
  · rw [if_pos h2] at h; omega
  refine ⟨by simpa using h1, fun s hs => ?_⟩
  have h3 : (l.map absS).any (fun s => decide (1048576 < s.2.length)) = false := by simpa only [Bool.not_eq_true] using h2
  rw [List.any_eq_false] at h3
  have := h3 (absS s) (List.mem_map.2 ⟨s, hs, rfl⟩)
  by_cases hx : s.b.length ≤ 1048576
  · exact hx
  · exact absurd (decide_eq_true (show 1048576 < (absS s).2.length from (by show 1048576 < s.b.length; omega))) this

set_option maxRecDepth 100000 in
set_option maxHeartbeats 4000000 in
theorem sput_any (r : Option Addr) (l : List Sc) (n c : Nat) (hn : n = l.length) (hl : n ≤ 9223372036854775807) (w : World) (h : SecS w.heap.size w r l) :
    Calls Try.prog 10 #[.slice r n c] w (PutsS l w) := by
  have hck := Lib.hid (check_any' r l n c hn hl w h)
  have hok := h.ok
  by_cases hc0 : checkL (l.map absS) = 0
  · obtain ⟨hlen, hM⟩ := check_len hok hc0
    rw [hc0] at hck
    have hc0' := Lib.hid hc0
    have hn' := Lib.hid hn
    have h' := Lib.hid h
    have hM' := Lib.hid hM
    have hli : (n : Int) ≤ 16 := by omega
    have hcs := conv_const'
    clear h hn hM hl hok hc0 hlen
    go_enter Try.func10, Try.ntmps10
    go_wp2_with fail
    refine hck.out.mono ?_
    rintro e w1 ⟨rfl, b1⟩
    have b1' := Lib.hid b1
    clear b1 hck
    have hout0 : Hid (OutR w.heap.size (w1.alloc (.cells #[.int .u8 65, .int .u8 73, .int .u8 82, .int .u8 88, .int .u8 1] 5 (5, 6))) (.slice (some ⟨w1.heap.size, 0, none⟩) 5 5) headL) := Lib.hid (.inr ⟨_, rfl, by
      have := sees_new .u8 w1 5 headL #[.int .u8 65, .int .u8 73, .int .u8 82, .int .u8 88, .int .u8 1] rfl (5, 6)
      simpa using this⟩)
    have hB0 : Hid (Below w.heap.size w (w1.alloc (.cells #[.int .u8 65, .int .u8 73, .int .u8 82, .int .u8 88, .int .u8 1] 5 (5, 6)))) := Lib.hid (b1'.out.alloc b1'.out.size _)
    go_wp2
    clear hcs
    go_loopw [5, 18] (fun v i wr => ∃ k : Nat, k ≤ n ∧ i = .int .i64 k ∧ Hid (OutR w.heap.size wr v (headL ++ bodyL ((l.take k).map absS))) ∧ Hid (Below w.heap.size w wr)) (fun _ i _ => n - (intOf i).toNat)
    case atStart => exact ⟨0, Nat.zero_le _, rfl, Lib.hid (by simpa [bodyL] using hout0.out), hB0⟩
    case round =>
      obtain ⟨k, hk, rfl, hown, hB⟩ := hrel
      by_cases hlt : k < n
      · have hkl : k < l.length := by have := hn'.out; omega
        obtain ⟨b, off, rfl, -, e1, e2, ok⟩ := (h'.out.below hB.out).at_ hkl
        have hmem : l.getD k sc0 ∈ l := by simp [List.getD, hkl]
        have hbm := hM'.out _ hmem
        have hst := Lib.hid (bodyL_step hkl)
        have hlen : Hid ((headL ++ bodyL ((l.take k).map absS)).length + (oneL (l.getD k sc0).tag (l.getD k sc0).b).length ≤ 140737488355328) := Lib.hid (by
          have q1 := bodyL_len 1048576 (by omega) (l := l.take k) (fun s hs => hM'.out s (List.mem_of_mem_take hs))
          have q2 := (oneL_len (l.getD k sc0).tag (l.getD k sc0).b (by omega)).1
          have q4 : (l.take k).length ≤ 16 := by simp; omega
          have q5 : (l.take k).length * (1048576 + 15) ≤ 16 * (1048576 + 15) := Nat.mul_le_mul_right _ q4
          rw [List.length_append]
          simp only [headL, List.length_cons, List.length_nil]
          omega)
        have hopos : Hid (0 < (oneL (l.getD k sc0).tag (l.getD k sc0).b).length) := Lib.hid (by have := (oneL_len (l.getD k sc0).tag (l.getD k sc0).b (by omega)).2; omega)
        have hHl := oneH_len (l.getD k sc0).tag (l.getD k sc0).b (by omega)
        have hHb := oneH_bs (l.getD k sc0).tag ok.2.2.2.2.1
        have hsz := hB.out.size
        obtain ⟨Wb, hWb⟩ : ∃ Wb, Wb = wr.alloc (.cells #[.int .i64 (l.getD k sc0).tag, .slice (l.getD k sc0).a (l.getD k sc0).m (l.getD k sc0).c] 39) := ⟨_, rfl⟩
        have hBb : Below wr.heap.size wr Wb := by rw [hWb]; exact below_box _ _ _
        have k0 : Wb.cell? ⟨wr.heap.size, 0, none⟩ = some (.int .i64 (l.getD k sc0).tag) := by rw [hWb]; simp [go_sem]
        have k1 : Wb.cell? ⟨wr.heap.size, 1, none⟩ = some (.slice (l.getD k sc0).a (l.getD k sc0).m (l.getD k sc0).c) := by rw [hWb]; simp [go_sem]
        have kl : wr.heap.size < Wb.heap.size := World.block_lt_of_cell? _ _ k0
        have seb := ((ok.mono hsz).below hBb).mono hBb.size
        have hsbz : (strOfNums (l.getD k sc0).b).size ≤ 1048576 := by rw [strOfNums_size]; exact hbm
        have hcd : leb (strOfNums (l.getD k sc0).b).size ++ codes (strOfNums (l.getD k sc0).b) = leb (l.getD k sc0).b.length ++ (l.getD k sc0).b := by rw [codes_str ok.2.2.2.2.1, ← codes_length, codes_str ok.2.2.2.2.1]
        have hcv : Hid (∀ W, Below Wb.heap.size Wb W → (convert 25 9 (.slice (l.getD k sc0).a (l.getD k sc0).m (l.getD k sc0).c)).run Try.prog W = .ok (.string (strOfNums (l.getD k sc0).b)) W) := Lib.hid (fun W hW => conv_sees _ 9 5 Try.underlying25 Try.underlying5 Try.underlying9 (seb.2.2.2.2.2.below hW) _ _ seb.2.1)
        have hk0 : Hid (∀ W, Below Wb.heap.size Wb W → W.cell? ⟨wr.heap.size, 0, none⟩ = some (.int .i64 (l.getD k sc0).tag) ∧ W.cell? ⟨wr.heap.size, 1, none⟩ = some (.slice (l.getD k sc0).a (l.getD k sc0).m (l.getD k sc0).c)) := Lib.hid (fun W hW => ⟨(hW.cell (p := ⟨wr.heap.size, 0, none⟩) kl).trans k0, (hW.cell (p := ⟨wr.heap.size, 1, none⟩) kl).trans k1⟩)
        have pB : Hid (∀ g F W, Pn W g F [] → Calls Try.prog 23 #[.pointer (some ⟨g, 0, none⟩), .int .i64 (l.getD k sc0).tag] W (Writes g F ([] ++ [(l.getD k sc0).tag % 256]) W)) := Lib.hid (fun g F W hp => pbyte_any g F [] _ W hp (by simp))
        have pT : Hid (∀ g F W, Pn W g F ([] ++ [(l.getD k sc0).tag % 256]) → Calls Try.prog 24 #[.pointer (some ⟨g, 0, none⟩), .string (strOfNums (l.getD k sc0).b)] W (Writes g F (oneH (l.getD k sc0).tag (l.getD k sc0).b) W)) := Lib.hid (fun g F W hp => by
          have := ptext_any g F _ (strOfNums (l.getD k sc0).b) W hp (by omega) (by simp) (by simp only [List.length_append, List.length_nil, List.length_cons]; omega)
          rw [hcd] at this
          exact this)
        have pY : Hid (∀ g F W, Pn W g F (oneH (l.getD k sc0).tag (l.getD k sc0).b) → Calls Try.prog 27 #[.pointer (some ⟨g, 0, none⟩)] W (Made 5 .u8 W (oneH (l.getD k sc0).tag (l.getD k sc0).b))) := Lib.hid (fun g F W hp => pbytes_any g F _ W hp (by omega))
        have pS : Hid (∀ a c W, Sees .u8 W.heap.size W a (oneH (l.getD k sc0).tag (l.getD k sc0).b) → Calls Try.prog 26 #[.slice a (oneH (l.getD k sc0).tag (l.getD k sc0).b).length c] W fun e w' => e = .returned (.int .u32 ((csum 0 (oneH (l.getD k sc0).tag (l.getD k sc0).b) : Nat) : Int)) ∧ W = w') := Lib.hid (fun a c W hs => sum_any a _ _ c rfl W.heap.size W (by unfold maxLen; omega) hHb hs)
        have pW : Hid (∀ g F W, Pn W g F (oneH (l.getD k sc0).tag (l.getD k sc0).b) → Calls Try.prog 25 #[.pointer (some ⟨g, 0, none⟩), .int .u32 ((csum 0 (oneH (l.getD k sc0).tag (l.getD k sc0).b) : Nat) : Int)] W (Writes g F (oneL (l.getD k sc0).tag (l.getD k sc0).b) W)) := Lib.hid (fun g F W hp => pword_any g F _ _ W hp (by omega) (csum_le hHb) (by omega))
        have pZ : Hid (∀ g F W, Pn W g F (oneL (l.getD k sc0).tag (l.getD k sc0).b) → Calls Try.prog 27 #[.pointer (some ⟨g, 0, none⟩)] W (Made 5 .u8 W (oneL (l.getD k sc0).tag (l.getD k sc0).b))) := Lib.hid (fun g F W hp => pbytes_any g F _ W hp (by have := hlen.out; omega))
        have hWb' := Lib.hid hWb
        have hBb' := Lib.hid hBb
        have hown' := Lib.hid (hown.out.below hBb)
        have hBw := Lib.hid (hB.out.trans (hBb.mono hsz))
        clear ok hmem hkl hbm hHl hHb hsz hWb hBb k0 k1 kl seb hsbz hcd hown hB
        generalize (csum 0 (oneH (l.getD k sc0).tag (l.getD k sc0).b) : Nat) = cs at *
        generalize oneL (l.getD k sc0).tag (l.getD k sc0).b = O at *
        generalize oneH (l.getD k sc0).tag (l.getD k sc0).b = H at *
        generalize strOfNums (l.getD k sc0).b = sb at *
        generalize (l.getD k sc0).tag = tg at *
        generalize (l.getD k sc0).a = ad at *
        generalize (l.getD k sc0).m = mm at *
        generalize (l.getD k sc0).c = cc at *
        go_wp2_with fail
        rw [← hWb'.out]
        refine (new_any Wb).mono ?_
        rintro e w1 ⟨g, F, rfl, p0, b0, f0⟩
        obtain ⟨q0, q1⟩ := hk0.out _ b0
        have p0' := Lib.hid p0
        have b0' := Lib.hid b0
        have f0' := Lib.hid f0
        clear p0 b0 f0
        go_wp2_with fail
        refine (pB.out g F w1 p0'.out).mono ?_
        rintro e w2 ⟨rfl, F1, p1, t1⟩
        obtain ⟨b1, f1⟩ := t1.allS b0'.out f0'.out
        obtain ⟨q2, q3⟩ := hk0.out _ b1
        have hcv2 := hcv.out _ b1
        have p1' := Lib.hid p1
        have b1' := Lib.hid b1
        have f1' := Lib.hid f1
        clear p1 b1 f1 t1 p0' b0' f0' q0 q1 pB
        go_wp2_with fail
        refine (pT.out g F1 w2 p1'.out).mono ?_
        rintro e w3 ⟨rfl, F2, p2, t2⟩
        obtain ⟨b2, f2⟩ := t2.allS b1'.out f1'.out
        have p2' := Lib.hid p2
        have b2' := Lib.hid b2
        have f2' := Lib.hid f2
        clear p2 b2 f2 t2 p1' b1' f1' q2 q3 hcv2 pT
        go_wp2_with fail
        refine (pY.out g F2 w3 p2'.out).mono ?_
        intro e w4 h4
        obtain ⟨a4, c4, rfl, s4, b4⟩ := h4.open _ rfl
        have p4' := Lib.hid (p2'.out.below b4)
        have b4' := Lib.hid (b2'.out.trans (b4.mono b2'.out.size))
        have s4' := Lib.hid s4
        clear h4 s4 b4 p2' b2' pY
        go_wp2_with fail
        refine (pS.out a4 c4 w4 s4'.out).mono ?_
        rintro e w5 ⟨rfl, rfl⟩
        clear s4' pS
        go_wp2_with fail
        refine (pW.out g F2 _ p4'.out).mono ?_
        rintro e w6 ⟨rfl, F3, p6, t6⟩
        obtain ⟨b6, f6⟩ := t6.allS b4'.out f2'.out
        have p6' := Lib.hid p6
        have b6' := Lib.hid b6
        clear p6 b6 f6 t6 p4' b4' f2' pW
        go_wp2_with fail
        refine (pZ.out g F3 w6 p6'.out).mono ?_
        intro e w7 h7
        obtain ⟨a7, c7, rfl, s7, b7⟩ := h7.open _ rfl
        have b7' := b6'.out.trans (b7.mono b6'.out.size)
        have o7 := Lib.hid (hown'.out.below b7')
        have B7 := Lib.hid (hBw.out.trans (b7'.mono hBw.out.size))
        clear h7 b7 b7' p6' b6' pZ hown' hBw
        go_wp2_with (at_builtin; refine wpList_append_out (w0 := w) rfl (.tmp 37) (.tmp 39) rfl _ (headL ++ bodyL ((l.take k).map absS)) o7.out B7.out a7 O O.length c7 rfl hopos.out s7 rfl rfl hlen.out ?_; intro v8 w8 o8 b8; have o8' := Lib.hid o8; have b8' := Lib.hid b8; clear o8 b8)
        go_roundw
        case rel => exact ⟨k + 1, by omega, by go_num, Lib.hid (.inl (by rw [hst.out, ← List.append_assoc]; exact o8'.out)), b8'⟩
        case measure => simp [intOf]; omega
      · have hfin : Hid (∃ a c, u5 = .slice a (putL (l.map absS)).length c ∧ (putL (l.map absS)).length ≤ c ∧ Sees .u8 wr.heap.size wr a (putL (l.map absS))) := Lib.hid (by
          have := hown.out
          rw [List.take_of_length_le (by have := hn'.out; omega)] at this
          exact this.slice)
        obtain ⟨a, c', rfl, hcl, hse⟩ := hfin.out
        have hres : PutsS l w (.returned (.tuple #[.slice a (putL (l.map absS)).length c', .int .i64 0])) wr := ⟨hB.out, .inl ⟨hc0'.out, a, c', rfl, hcl, hse⟩⟩
        have hres' := Lib.hid hres
        clear hfin hcl hse hres hown
        generalize (putL (l.map absS)).length = pl at *
        go_wp2
        go_ret2
        exact hres'.out
  · have hres : ∀ w', Below w.heap.size w w' → PutsS l w (.returned (.tuple #[.slice none 0 0, .int .i64 (checkL (l.map absS))])) w' := fun w' hb => ⟨hb, .inr ⟨hc0, rfl⟩⟩
    have hres' := Lib.hid hres
    clear hres h hn hl hok
    generalize checkL (l.map absS) = x at *
    have hx1 : (x == 0) = false := by simpa using hc0
    have hx2 : (x != 0) = true := by simpa using hc0
    go_enter Try.func10, Try.ntmps10
    go_wp2_with fail
    refine hck.out.mono ?_
    rintro e w1 ⟨rfl, b1⟩
    have b1' := Lib.hid (hres'.out _ b1)
    clear b1 hck hres'
    go_wp2
    go_ret2
    exact b1'.out
end Go.Proofs.Ytnjdgnlgdokddaa
