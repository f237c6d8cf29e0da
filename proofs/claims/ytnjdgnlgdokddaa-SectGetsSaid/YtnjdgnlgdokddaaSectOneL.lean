/- sect.one where more bytes lie ahead than a section has. -/
import Derived.Test.YtnjdgnlgdokddaaSectOne
namespace Go.Proofs.Ytnjdgnlgdokddaa
open Go.RowKit
set_option linter.unusedVariables false
set_option linter.unusedSimpArgs false

set_option maxRecDepth 100000 in
set_option maxHeartbeats 8000000 in
theorem one_long (rl : Option Addr) (l : List Sc) (n c : Nat) (hn : n = l.length) (hl : n ≤ 1000) (aB : Option Addr) (B : List Int) (nB cB : Nat) (hnB : nB = B.length) (hBl : nB ≤ 100000000) (hcB : nB ≤ cB) (hB : Bs B) (w : World)
    (h : SecS w.heap.size w rl l) (hs : Sees .u8 w.heap.size w aB B) (hcase : 1048608 < nB) :
    Calls Try.prog 28 #[.slice rl n c, .slice aB nB cB] w (OneS (lastTag l) n B w) := by
  have hml : 1048608 = (oneBs B).length := by simp [oneBs]; omega
  obtain ⟨W6, hW6⟩ : ∃ W6, W6 = ((((((w.alloc (.cells #[.slice rl n c] 22)).alloc (.cells #[.slice aB nB cB] 25)).alloc (.cells #[.int .i64 0, .slice none 0 0] 39)).alloc (.cells #[.int .i64 0, .slice none 0 0] 39)).alloc (.cells #[.int .u32 0] 41)).alloc (.cells #[.int .i64 0] 3)) := ⟨_, rfl⟩
  have B6 : Below w.heap.size w W6 := by
    rw [hW6]
    exact ((((((Below.refl _ _).alloc (Nat.le_refl _) _).alloc (by simp) _).alloc (by simp; omega) _).alloc (by simp; omega) _).alloc (by simp; omega) _).alloc (by simp; omega) _
  have z6 : W6.heap.size = w.heap.size + 1 + 1 + 1 + 1 + 1 + 1 := by rw [hW6]; simp
  have cl : W6.cell? ⟨w.heap.size, 0, none⟩ = some (.slice rl n c) := by rw [hW6]; simp [go_sem]
  have cb : W6.cell? ⟨w.heap.size + 1, 0, none⟩ = some (.slice aB nB cB) := by rw [hW6]; simp [go_sem]
  have c4 : Holds W6 (w.heap.size + 1 + 1) 39 #[.int .i64 0, .slice none 0 0] := by rw [hW6]; exact (((holds_at _ _ _ _ (by simp)).alloc _).alloc _).alloc _
  have cs : Holds W6 (w.heap.size + 1 + 1 + 1) 39 #[.int .i64 0, .slice none 0 0] := by rw [hW6]; exact ((holds_at _ _ _ _ (by simp)).alloc _).alloc _
  have cw : Holds W6 (w.heap.size + 1 + 1 + 1 + 1) 41 #[.int .u32 0] := by rw [hW6]; exact (holds_at _ _ _ _ (by simp)).alloc _
  have cz : Holds W6 (w.heap.size + 1 + 1 + 1 + 1 + 1) 3 #[.int .i64 0] := by rw [hW6]; exact holds_at _ _ _ _ (by simp)
  have hfrom := Lib.hid (from_any aB (oneBs B) 1048608 cB hml W6.heap.size W6 (by rw [← hml]; omega) (hB.take _) (((hs.take _).below B6).mono B6.size))
  have hnB' := Lib.hid hnB
  have hn' := Lib.hid hn
  have h' := Lib.hid h
  have hs' := Lib.hid hs
  have hBb := Lib.hid hB
  have hW6' := Lib.hid hW6
  have hBi : (nB : Int) ≤ 100000000 := by omega
  have hmc : 1048608 ≤ cB := by omega
  have hci : ¬ (nB : Int) ≤ 1048608 := by omega
  have hcc0 : (1048608 : Nat) ≤ cB := by omega
  have hcc1 : (1048608 : Int) ≤ (cB : Int) := by omega
  clear hn h hs hB hnB hml hW6
  go_enter Try.func28, Try.ntmps28
  go_wp2_with fail
  rw [← hW6'.out]
  refine hfrom.out.mono ?_
  rintro en w7 ⟨r, a, cap, rfl, rd, b7, hr⟩
  obtain ⟨W0, hW0⟩ : ∃ W0, W0 = (w7.alloc (.cells #[.pointer (some ⟨r, 0, none⟩)] 76)).alloc (.cells #[.func (.func 49) #[] #[.pointer (some ⟨w7.heap.size, 0, none⟩), .pointer (some ⟨w.heap.size + 1 + 1 + 1, 0, none⟩)], .func (.func 52) #[] #[.pointer (some ⟨w7.heap.size, 0, none⟩), .pointer (some ⟨w.heap.size + 1 + 1 + 1, 0, none⟩), .pointer (some ⟨w.heap.size + 1 + 1 + 1 + 1 + 1, 0, none⟩)], .func (.func 55) #[] #[.pointer (some ⟨w7.heap.size, 0, none⟩), .pointer (some ⟨w.heap.size + 1 + 1 + 1 + 1, 0, none⟩)], .func (.func 57) #[] #[.pointer (some ⟨w.heap.size + 1, 0, none⟩), .pointer (some ⟨w.heap.size + 1 + 1 + 1 + 1 + 1, 0, none⟩), .pointer (some ⟨w.heap.size + 1 + 1 + 1 + 1, 0, none⟩)], .func (.func 60) #[] #[.pointer (some ⟨w.heap.size, 0, none⟩), .pointer (some ⟨w.heap.size + 1 + 1 + 1, 0, none⟩)], .func (.func 62) #[] #[.pointer (some ⟨w.heap.size, 0, none⟩)]] 78) := ⟨_, rfl⟩
  have B70 : Below w7.heap.size w7 W0 := by rw [hW0]; exact ((Below.refl _ _).alloc (Nat.le_refl _) _).alloc (by simp) _
  have z7 : W6.heap.size ≤ w7.heap.size := b7.size
  have kbx : W0.cell? ⟨w7.heap.size, 0, none⟩ = some (.pointer (some ⟨r, 0, none⟩)) := by rw [hW0]; simp [go_sem]
  have hfn := (by rw [hW0]; exact holds_at _ _ _ (w7.heap.size + 1) (by simp) : Holds W0 (w7.heap.size + 1) 78 _)
  have B60 : Below W6.heap.size W6 W0 := b7.trans (B70.mono b7.size)
  have hsee : SeesE (XS r (w.heap.size + 1 + 1 + 1) (w.heap.size + 1 + 1 + 1 + 1) (w.heap.size + 1 + 1 + 1 + 1 + 1)) .u8 W0.heap.size W0 a (oneBs B) := by
    have q0 := (rd.sees.belowE (.of B70)).mono B70.size
    have q1 := sees_not q0 (cs.below B60 cs.lt) (not_sect _ _ _ _)
    have q2 := sees_not q1 (cw.below B60 cw.lt) (not_one _ (by intro m; simp))
    have q3 := sees_not q2 (cz.below B60 cz.lt) (not_one _ (by intro m; simp))
    exact q3.fewer (by intro y hy _; simp [XS] at hy ⊢; omega)
  have C : Ctx W0 w7.heap.size (w.heap.size + 1 + 1 + 1) (w.heap.size + 1 + 1 + 1 + 1) (w.heap.size + 1 + 1 + 1 + 1 + 1) r a cap (oneBs B) := by
    have lr := rd.blk.lt
    have z0 := B70.size
    refine ⟨hsee, kbx, by simp [XS]; omega, by intro y hy; simp [XS] at hy; omega, by omega, by omega, by omega, by omega, by omega, by omega, rd.byt, rd.len, rd.cap⟩
  have S0 : St W0 (w.heap.size + 1 + 1 + 1) (w.heap.size + 1 + 1 + 1 + 1) (w.heap.size + 1 + 1 + 1 + 1 + 1) r a cap (oneBs B) W0 0 0 (.int .i64 0) (.slice none 0 0) (.int .u32 0) (.int .i64 0) :=
    ⟨rd.blk.below B70 rd.blk.lt, cs.below B60 cs.lt, cw.below B60 cw.lt, cz.below B60 cz.lt, BelowE.refl _ _ _⟩
  have hxs : ∀ y ∈ XS r (w.heap.size + 1 + 1 + 1) (w.heap.size + 1 + 1 + 1 + 1) (w.heap.size + 1 + 1 + 1 + 1 + 1), w.heap.size ≤ y := by intro y hy; simp [XS] at hy; omega
  have Bw0 : Below w.heap.size w W0 := B6.trans (B60.mono B6.size)
  have hall : Hid (∀ wr, BelowE (XS r (w.heap.size + 1 + 1 + 1) (w.heap.size + 1 + 1 + 1 + 1) (w.heap.size + 1 + 1 + 1 + 1 + 1)) W0.heap.size W0 wr → Below w.heap.size w wr ∧ wr.cell? ⟨w.heap.size, 0, none⟩ = some (.slice rl n c) ∧ wr.cell? ⟨w.heap.size + 1, 0, none⟩ = some (.slice aB nB cB) ∧ Holds wr (w.heap.size + 1 + 1) 39 #[.int .i64 0, .slice none 0 0] ∧ Holds wr (w7.heap.size + 1) 78 _) := Lib.hid (fun wr hb => by
    have q1 := Bw0.trans ((hb.mono Bw0.size).toBelow hxs)
    have lr := rd.blk.lt
    refine ⟨q1, ?_, ?_, ?_, hfn.belowE hb hfn.lt (by simp [XS]; omega)⟩
    · exact (hb.cell (p := ⟨w.heap.size, 0, none⟩) (by have := B60.size; simp; omega) (by simp [XS]; omega)).trans ((B60.cell (p := ⟨w.heap.size, 0, none⟩) (by simp; omega)).trans cl)
    · exact (hb.cell (p := ⟨w.heap.size + 1, 0, none⟩) (by have := B60.size; simp; omega) (by simp [XS]; omega)).trans ((B60.cell (p := ⟨w.heap.size + 1, 0, none⟩) (by simp; omega)).trans cb)
    · exact (c4.below B60 c4.lt).belowE hb (c4.below B60 c4.lt).lt (by simp [XS]; omega))
  have n4 : w.heap.size + 1 + 1 ∉ XS r (w.heap.size + 1 + 1 + 1) (w.heap.size + 1 + 1 + 1 + 1) (w.heap.size + 1 + 1 + 1 + 1 + 1) := by simp [XS]; omega
  have n5 : w7.heap.size ≠ w.heap.size + 1 + 1 := by omega
  have S0' := Lib.hid S0
  have C' := Lib.hid C
  have hW0' := Lib.hid hW0
  clear S0 C hW0 rd b7 B70 kbx hfn B60 hsee hxs Bw0 cl cb c4 cs cw cz B6 z7 hr z6
  go_wp2_with fail
  rw [← hW0'.out]
  have l4 : w.heap.size ≤ w.heap.size + 1 + 1 := by omega
  generalize w.heap.size + 1 + 1 + 1 + 1 + 1 = hz at *
  generalize w.heap.size + 1 + 1 + 1 + 1 = hw at *
  generalize w.heap.size + 1 + 1 + 1 = hs at *
  generalize w.heap.size + 1 + 1 = h4 at *
  generalize w.heap.size + 1 = hb at *
  generalize w7.heap.size + 1 = hf at *
  generalize w7.heap.size = hr at *
  have l4' : h4 < W0.heap.size := (hall.out W0 (BelowE.refl _ _ _)).2.2.2.1.lt
  clear hW0' hW6' hfrom
  go_loopw [40] (fun i wr => ∃ k : Nat, k ≤ 6 ∧ i = .int .i64 k ∧ Hid (Come W0 hs hw hz r a cap (lastTag l) n B k wr)) (fun i _ => 6 - (intOf i).toNat)
  case atStart => exact ⟨0, by omega, rfl, Lib.hid (.inl ⟨rfl, S0'.out⟩)⟩
  case round =>
    obtain ⟨k, hk, rfl, hcome⟩ := hrel
    rcases hcome.out with ⟨rfl, s0⟩ | ⟨rfl, e1, s1⟩ | ⟨k2, k6, e1, e2, g, cc, hg, hcc, hse, ⟨rfl, s2⟩ | ⟨k3, e3, s3, p4, p5, p6⟩⟩
    · obtain ⟨bl, q1, q2, hd4, hdf⟩ := hall.out wr s0.bl
      have hA := Lib.hid (stepA_any C'.out s0)
      have f0 := hdf.cell 0
      simp at f0
      by_cases he : (oneT B).2.2 = 0
      · have hnext : Hid (∀ w1, St W0 hs hw hz r a cap (oneBs B) w1 (oneT B).2.1 (oneT B).2.2 (.int .i64 (oneT B).1) (.slice none 0 0) (.int .u32 0) (.int .i64 0) → Come W0 hs hw hz r a cap (lastTag l) n B 1 w1) := Lib.hid (fun w1 hs1 => .inr (.inl ⟨rfl, he, by rw [he] at hs1; exact hs1⟩))
        have hA2 : Hid (Calls Try.prog 49 #[.pointer (some ⟨hr, 0, none⟩), .pointer (some ⟨hs, 0, none⟩)] wr (fun en w1 => en = .returned (.int .i64 0) ∧ Come W0 hs hw hz r a cap (lastTag l) n B 1 w1)) := Lib.hid (hA.out.mono (by rintro en w1 ⟨rfl, s, -⟩; exact ⟨by show Ending.returned (.int .i64 (oneT B).2.2) = _; rw [he], hnext.out w1 s⟩))
        clear hA hnext hcome s0 bl q1 q2 hd4 hdf he
        go_wp2_with fail
        refine hA2.out.mono ?_
        rintro en w1 ⟨rfl, hc1⟩
        have hc1' := Lib.hid hc1
        clear hc1 hA2
        go_wp2
        go_roundw
        case rel => exact ⟨1, by omega, by go_num, hc1'⟩
        case measure => simp [intOf]
      · have hE : oneE (lastTag l) n B = (oneT B).2.2 := by unfold oneE; rw [if_pos he]
        have hA2 : Hid (Calls Try.prog 49 #[.pointer (some ⟨hr, 0, none⟩), .pointer (some ⟨hs, 0, none⟩)] wr (fun en w1 => en = .returned (.int .i64 (oneE (lastTag l) n B)) ∧ BelowE (XS r hs hw hz) W0.heap.size W0 w1)) := Lib.hid (hA.out.mono (by rintro en w1 ⟨rfl, s, -⟩; exact ⟨by rw [hE]; rfl, s.bl⟩))
        have hne : oneE (lastTag l) n B ≠ 0 := by rw [hE]; exact he
        clear hA hcome s0 bl q1 q2 hd4 hdf he hE
        have hfin : Hid (∀ w1, Below w.heap.size w w1 → OneS (lastTag l) n B w (.returned (.tuple #[.agg #[.int .i64 0, .slice none 0 0], .int .i64 0, .int .i64 (oneE (lastTag l) n B)])) w1) := Lib.hid (fun w1 hb1 => ⟨hb1, .inr ⟨hne, rfl⟩⟩)
        generalize oneE (lastTag l) n B = y at *
        have y1 : (y == 0) = false := by simpa using hne
        go_wp2_with fail
        refine hA2.out.mono ?_
        rintro en w1 ⟨rfl, hbl⟩
        obtain ⟨bl, -, -, hd4, -⟩ := hall.out w1 hbl
        have r0 := hd4.cell 0
        have r1 := hd4.cell 1
        have r2 := hd4.free 0
        have r3 := hd4.free 1
        simp at r0 r1
        have hret : Hid (Holds ((w1.setCell ⟨h4, 0, none⟩ (.int .i64 0)).setCell ⟨h4, 1, none⟩ (.slice none 0 0)) h4 39 #[.int .i64 0, .slice none 0 0] ∧ OneS (lastTag l) n B w (.returned (.tuple #[.agg #[.int .i64 0, .slice none 0 0], .int .i64 0, .int .i64 y])) ((w1.setCell ⟨h4, 0, none⟩ (.int .i64 0)).setCell ⟨h4, 1, none⟩ (.slice none 0 0))) := Lib.hid ⟨set_both hd4 _ _, hfin.out _ ((bl.setCell (p := ⟨h4, 0, none⟩) l4 _).setCell (p := ⟨h4, 1, none⟩) l4 _)⟩
        clear hA2 hbl bl hd4 hfin
        go_wp2
        exact sect_ret hret.out.1 hret.out.2 _ _ _ _ _ rfl rfl rfl rfl rfl
    · have hp1 : (oneT B).2.1 ≤ (oneBs B).length := byteO_at (bs := oneBs B) (Nat.zero_le _) 0
      obtain ⟨bl, q1, q2, hd4, hdf⟩ := hall.out wr s1.bl
      have f0 := hdf.cell 1
      simp at f0
      have hA := Lib.hid (stepB_any C'.out hp1 s1)
      by_cases he : (oneX B).2.2 = 0
      · have hA2 : Hid (Calls Try.prog 52 #[.pointer (some ⟨hr, 0, none⟩), .pointer (some ⟨hs, 0, none⟩), .pointer (some ⟨hz, 0, none⟩)] wr (fun en w1 => en = .returned (.int .i64 0) ∧ Come W0 hs hw hz r a cap (lastTag l) n B 2 w1)) := Lib.hid (hA.out.mono (by
          rintro en w1 ⟨rfl, g, c', s, b, hgw, hcc, hse⟩
          refine ⟨by show Ending.returned (.int .i64 (oneX B).2.2) = _; rw [he], .inr (.inr ⟨by omega, by omega, e1, he, g, c', Nat.le_trans s1.bl.size hgw, hcc, hse, .inl ⟨rfl, ?_⟩⟩)⟩
          have s' : St W0 hs hw hz r a cap (oneBs B) w1 (oneX B).2.1 (oneX B).2.2 (.int .i64 (oneT B).1) (.slice (some ⟨g, 0, none⟩) (oneX B).1.size c') (.int .u32 0) (.int .i64 ((oneX B).2.1 : Nat)) := s
          rw [he] at s'; exact s'
          ))
        clear hA hcome s1 hp1 e1 bl q1 q2 hd4 hdf he
        go_wp2_with fail
        refine hA2.out.mono ?_
        rintro en w1 ⟨rfl, hc1⟩
        have hc1' := Lib.hid hc1
        clear hc1 hA2
        go_wp2
        go_roundw
        case rel => exact ⟨2, by omega, by go_num, hc1'⟩
        case measure => simp [intOf]
      · have hE : oneE (lastTag l) n B = (oneX B).2.2 := by
          unfold oneE; rw [if_neg (by simp [e1]), if_pos he]
        have hA2 : Hid (Calls Try.prog 52 #[.pointer (some ⟨hr, 0, none⟩), .pointer (some ⟨hs, 0, none⟩), .pointer (some ⟨hz, 0, none⟩)] wr (fun en w1 => en = .returned (.int .i64 (oneE (lastTag l) n B)) ∧ BelowE (XS r hs hw hz) W0.heap.size W0 w1)) := Lib.hid (hA.out.mono (by
          rintro en w1 ⟨rfl, g, c', s, -⟩
          exact ⟨by rw [hE]; rfl, s.bl⟩
          ))
        have hne : oneE (lastTag l) n B ≠ 0 := by rw [hE]; exact he
        clear hA hcome s1 hp1 e1 bl q1 q2 hd4 hdf he hE
        have hfin : Hid (∀ w1, Below w.heap.size w w1 → OneS (lastTag l) n B w (.returned (.tuple #[.agg #[.int .i64 0, .slice none 0 0], .int .i64 0, .int .i64 (oneE (lastTag l) n B)])) w1) := Lib.hid (fun w1 hb1 => ⟨hb1, .inr ⟨hne, rfl⟩⟩)
        generalize oneE (lastTag l) n B = y at *
        have y1 : (y == 0) = false := by simpa using hne
        go_wp2_with fail
        refine hA2.out.mono ?_
        rintro en w1 ⟨rfl, hbl⟩
        obtain ⟨bl, -, -, hd4, -⟩ := hall.out w1 hbl
        have r0 := hd4.cell 0
        have r1 := hd4.cell 1
        have r2 := hd4.free 0
        have r3 := hd4.free 1
        simp at r0 r1
        have hret : Hid (Holds ((w1.setCell ⟨h4, 0, none⟩ (.int .i64 0)).setCell ⟨h4, 1, none⟩ (.slice none 0 0)) h4 39 #[.int .i64 0, .slice none 0 0] ∧ OneS (lastTag l) n B w (.returned (.tuple #[.agg #[.int .i64 0, .slice none 0 0], .int .i64 0, .int .i64 y])) ((w1.setCell ⟨h4, 0, none⟩ (.int .i64 0)).setCell ⟨h4, 1, none⟩ (.slice none 0 0))) := Lib.hid ⟨set_both hd4 _ _, hfin.out _ ((bl.setCell (p := ⟨h4, 0, none⟩) l4 _).setCell (p := ⟨h4, 1, none⟩) l4 _)⟩
        clear hA2 hbl bl hd4 hfin
        go_wp2
        exact sect_ret hret.out.1 hret.out.2 _ _ _ _ _ rfl rfl rfl rfl rfl
    · have hp1 : (oneT B).2.1 ≤ (oneBs B).length := byteO_at (bs := oneBs B) (Nat.zero_le _) 0
      have hp2 : (oneX B).2.1 ≤ (oneBs B).length := textO_at (bs := oneBs B) hp1 1048576 0
      have hgX : g ∉ XS r hs hw hz := fun hm => by have := C'.out.lt g hm; omega
      obtain ⟨bl, q1, q2, hd4, hdf⟩ := hall.out wr s2.bl
      have f0 := hdf.cell 2
      simp at f0
      have hA := Lib.hid (stepC_any C'.out hp2 s2)
      by_cases he : (oneW B).2.2 = 0
      · have hA2 : Hid (Calls Try.prog 55 #[.pointer (some ⟨hr, 0, none⟩), .pointer (some ⟨hw, 0, none⟩)] wr (fun en w1 => en = .returned (.int .i64 0) ∧ Come W0 hs hw hz r a cap (lastTag l) n B 3 w1)) := Lib.hid (hA.out.mono (by
          rintro en w1 ⟨rfl, s, b⟩
          refine ⟨by show Ending.returned (.int .i64 (oneW B).2.2) = _; rw [he], .inr (.inr ⟨by omega, by omega, e1, e2, g, cc, hg, hcc, sees_keep hse b hgX, .inr ⟨by omega, he, ?_, by omega, by omega, by omega⟩⟩)⟩
          have s' : St W0 hs hw hz r a cap (oneBs B) w1 (oneW B).2.1 (oneW B).2.2 (.int .i64 (oneT B).1) (.slice (some ⟨g, 0, none⟩) (oneX B).1.size cc) (.int .u32 (oneW B).1) (.int .i64 ((oneX B).2.1 : Nat)) := s
          rw [he] at s'; exact s'
          ))
        clear hA hcome s2 hp1 hp2 e1 e2 hse hgX bl q1 q2 hd4 hdf he
        go_wp2_with fail
        refine hA2.out.mono ?_
        rintro en w1 ⟨rfl, hc1⟩
        have hc1' := Lib.hid hc1
        clear hc1 hA2
        go_wp2
        go_roundw
        case rel => exact ⟨3, by omega, by go_num, hc1'⟩
        case measure => simp [intOf]
      · have hE : oneE (lastTag l) n B = (oneW B).2.2 := by
          unfold oneE; rw [if_neg (by simp [e1]), if_neg (by simp [e2]), if_pos he]
        have hA2 : Hid (Calls Try.prog 55 #[.pointer (some ⟨hr, 0, none⟩), .pointer (some ⟨hw, 0, none⟩)] wr (fun en w1 => en = .returned (.int .i64 (oneE (lastTag l) n B)) ∧ BelowE (XS r hs hw hz) W0.heap.size W0 w1)) := Lib.hid (hA.out.mono (by
          rintro en w1 ⟨rfl, s, -⟩
          exact ⟨by rw [hE]; rfl, s.bl⟩
          ))
        have hne : oneE (lastTag l) n B ≠ 0 := by rw [hE]; exact he
        clear hA hcome s2 hp1 hp2 e1 e2 hse hgX bl q1 q2 hd4 hdf he hE
        have hfin : Hid (∀ w1, Below w.heap.size w w1 → OneS (lastTag l) n B w (.returned (.tuple #[.agg #[.int .i64 0, .slice none 0 0], .int .i64 0, .int .i64 (oneE (lastTag l) n B)])) w1) := Lib.hid (fun w1 hb1 => ⟨hb1, .inr ⟨hne, rfl⟩⟩)
        generalize oneE (lastTag l) n B = y at *
        have y1 : (y == 0) = false := by simpa using hne
        go_wp2_with fail
        refine hA2.out.mono ?_
        rintro en w1 ⟨rfl, hbl⟩
        obtain ⟨bl, -, -, hd4, -⟩ := hall.out w1 hbl
        have r0 := hd4.cell 0
        have r1 := hd4.cell 1
        have r2 := hd4.free 0
        have r3 := hd4.free 1
        simp at r0 r1
        have hret : Hid (Holds ((w1.setCell ⟨h4, 0, none⟩ (.int .i64 0)).setCell ⟨h4, 1, none⟩ (.slice none 0 0)) h4 39 #[.int .i64 0, .slice none 0 0] ∧ OneS (lastTag l) n B w (.returned (.tuple #[.agg #[.int .i64 0, .slice none 0 0], .int .i64 0, .int .i64 y])) ((w1.setCell ⟨h4, 0, none⟩ (.int .i64 0)).setCell ⟨h4, 1, none⟩ (.slice none 0 0))) := Lib.hid ⟨set_both hd4 _ _, hfin.out _ ((bl.setCell (p := ⟨h4, 0, none⟩) l4 _).setCell (p := ⟨h4, 1, none⟩) l4 _)⟩
        clear hA2 hbl bl hd4 hfin
        go_wp2
        exact sect_ret hret.out.1 hret.out.2 _ _ _ _ _ rfl rfl rfl rfl rfl
    · have hp1 : (oneT B).2.1 ≤ (oneBs B).length := byteO_at (bs := oneBs B) (Nat.zero_le _) 0
      have hp2 : (oneX B).2.1 ≤ (oneBs B).length := textO_at (bs := oneBs B) hp1 1048576 0
      have hobs : (oneBs B).length ≤ B.length := by simp [oneBs]; omega
      obtain rfl | rfl | rfl | rfl : k = 3 ∨ k = 4 ∨ k = 5 ∨ k = 6 := by omega
      · have k0 := s3.sz.cell 0
        have kx := s3.wd.cell 0
        simp at k0 kx
        obtain ⟨bl, q1, q2, hd4, hdf⟩ := hall.out wr s3.bl
        have f0 := hdf.cell 3
        simp at f0
        have hA := Lib.hid (stepD_any hb B aB nB cB (oneX B).2.1 (oneW B).1 hnB'.out (by have := hnB'.out; omega) hcB hBb.out (by have := hnB'.out; omega) wr ((hs'.out.below bl).mono bl.size) q2 k0 kx)
        by_cases he : ((csum 0 (B.take (oneX B).2.1) : Nat) : Int) = (oneW B).1
        · have hA2 : Hid (Calls Try.prog 57 #[.pointer (some ⟨hb, 0, none⟩), .pointer (some ⟨hz, 0, none⟩), .pointer (some ⟨hw, 0, none⟩)] wr (fun en w1 => en = .returned (.int .i64 0) ∧ Come W0 hs hw hz r a cap (lastTag l) n B 4 w1)) := Lib.hid (hA.out.mono (by
            rintro en w1 ⟨rfl, m, rfl⟩
            exact ⟨by rw [if_pos he], .inr (.inr ⟨by omega, by omega, e1, e2, g, cc, hg, hcc, hse, .inr ⟨by omega, e3, s3.drewN m, fun _ => he, by omega, by omega⟩⟩)⟩
            ))
          clear hA hcome s3 hp1 hp2 hobs k0 kx e1 e2 e3 p4 p5 p6 hse bl q1 q2 hd4 hdf he
          go_wp2_with fail
          refine hA2.out.mono ?_
          rintro en w1 ⟨rfl, hc1⟩
          have hc1' := Lib.hid hc1
          clear hc1 hA2
          go_wp2
          go_roundw
          case rel => exact ⟨4, by omega, by go_num, hc1'⟩
          case measure => simp [intOf]
        · have hE : oneE (lastTag l) n B = 42 := by
            unfold oneE; rw [if_neg (by simp [e1]), if_neg (by simp [e2]), if_neg (by simp [e3]), if_neg he]
          have hA2 : Hid (Calls Try.prog 57 #[.pointer (some ⟨hb, 0, none⟩), .pointer (some ⟨hz, 0, none⟩), .pointer (some ⟨hw, 0, none⟩)] wr (fun en w1 => en = .returned (.int .i64 (oneE (lastTag l) n B)) ∧ BelowE (XS r hs hw hz) W0.heap.size W0 w1)) := Lib.hid (hA.out.mono (by
            rintro en w1 ⟨rfl, m, rfl⟩
            exact ⟨by rw [hE, if_neg he], s3.bl.drewN m⟩
            ))
          have hne : oneE (lastTag l) n B ≠ 0 := by rw [hE]; omega
          clear hA hcome s3 hp1 hp2 hobs k0 kx e1 e2 e3 p4 p5 p6 hse bl q1 q2 hd4 hdf he hE
          have hfin : Hid (∀ w1, Below w.heap.size w w1 → OneS (lastTag l) n B w (.returned (.tuple #[.agg #[.int .i64 0, .slice none 0 0], .int .i64 0, .int .i64 (oneE (lastTag l) n B)])) w1) := Lib.hid (fun w1 hb1 => ⟨hb1, .inr ⟨hne, rfl⟩⟩)
          generalize oneE (lastTag l) n B = y at *
          have y1 : (y == 0) = false := by simpa using hne
          go_wp2_with fail
          refine hA2.out.mono ?_
          rintro en w1 ⟨rfl, hbl⟩
          obtain ⟨bl, -, -, hd4, -⟩ := hall.out w1 hbl
          have r0 := hd4.cell 0
          have r1 := hd4.cell 1
          have r2 := hd4.free 0
          have r3 := hd4.free 1
          simp at r0 r1
          have hret : Hid (Holds ((w1.setCell ⟨h4, 0, none⟩ (.int .i64 0)).setCell ⟨h4, 1, none⟩ (.slice none 0 0)) h4 39 #[.int .i64 0, .slice none 0 0] ∧ OneS (lastTag l) n B w (.returned (.tuple #[.agg #[.int .i64 0, .slice none 0 0], .int .i64 0, .int .i64 y])) ((w1.setCell ⟨h4, 0, none⟩ (.int .i64 0)).setCell ⟨h4, 1, none⟩ (.slice none 0 0))) := Lib.hid ⟨set_both hd4 _ _, hfin.out _ ((bl.setCell (p := ⟨h4, 0, none⟩) l4 _).setCell (p := ⟨h4, 1, none⟩) l4 _)⟩
          clear hA2 hbl bl hd4 hfin
          go_wp2
          exact sect_ret hret.out.1 hret.out.2 _ _ _ _ _ rfl rfl rfl rfl rfl
      · have k0 := s3.sc.cell 0
        simp at k0
        have he4 := p4 (by omega)
        obtain ⟨bl, q1, q2, hd4, hdf⟩ := hall.out wr s3.bl
        have f0 := hdf.cell 4
        simp at f0
        have hA := Lib.hid (stepE_any w.heap.size l rl n c hn'.out (by have := hn'.out; omega) (oneT B).1 (.int .i64 0) wr ((h'.out.below bl).mono bl.size) q1 k0)
        by_cases he : lastTag l < (oneT B).1 ∧ (oneT B).1 ≤ 255
        · have hA2 : Hid (Calls Try.prog 60 #[.pointer (some ⟨w.heap.size, 0, none⟩), .pointer (some ⟨hs, 0, none⟩)] wr (fun en w1 => en = .returned (.int .i64 0) ∧ Come W0 hs hw hz r a cap (lastTag l) n B 5 w1)) := Lib.hid (hA.out.mono (by
            rintro en w1 ⟨rfl, m, rfl⟩
            exact ⟨by rw [if_pos he], .inr (.inr ⟨by omega, by omega, e1, e2, g, cc, hg, hcc, hse, .inr ⟨by omega, e3, s3.drewN m, fun _ => he4, fun _ => he, by omega⟩⟩)⟩
            ))
          clear hA hcome s3 hp1 hp2 hobs k0 e1 e2 e3 p4 p5 p6 hse he4 bl q1 q2 hd4 hdf he
          go_wp2_with fail
          refine hA2.out.mono ?_
          rintro en w1 ⟨rfl, hc1⟩
          have hc1' := Lib.hid hc1
          clear hc1 hA2
          go_wp2
          go_roundw
          case rel => exact ⟨5, by omega, by go_num, hc1'⟩
          case measure => simp [intOf]
        · have hE : oneE (lastTag l) n B = 41 := by
            unfold oneE; rw [if_neg (by simp [e1]), if_neg (by simp [e2]), if_neg (by simp [e3]), if_pos he4, if_neg he]
          have hA2 : Hid (Calls Try.prog 60 #[.pointer (some ⟨w.heap.size, 0, none⟩), .pointer (some ⟨hs, 0, none⟩)] wr (fun en w1 => en = .returned (.int .i64 (oneE (lastTag l) n B)) ∧ BelowE (XS r hs hw hz) W0.heap.size W0 w1)) := Lib.hid (hA.out.mono (by
            rintro en w1 ⟨rfl, m, rfl⟩
            exact ⟨by rw [hE, if_neg he], s3.bl.drewN m⟩
            ))
          have hne : oneE (lastTag l) n B ≠ 0 := by rw [hE]; omega
          clear hA hcome s3 hp1 hp2 hobs k0 e1 e2 e3 p4 p5 p6 hse he4 bl q1 q2 hd4 hdf he hE
          have hfin : Hid (∀ w1, Below w.heap.size w w1 → OneS (lastTag l) n B w (.returned (.tuple #[.agg #[.int .i64 0, .slice none 0 0], .int .i64 0, .int .i64 (oneE (lastTag l) n B)])) w1) := Lib.hid (fun w1 hb1 => ⟨hb1, .inr ⟨hne, rfl⟩⟩)
          generalize oneE (lastTag l) n B = y at *
          have y1 : (y == 0) = false := by simpa using hne
          go_wp2_with fail
          refine hA2.out.mono ?_
          rintro en w1 ⟨rfl, hbl⟩
          obtain ⟨bl, -, -, hd4, -⟩ := hall.out w1 hbl
          have r0 := hd4.cell 0
          have r1 := hd4.cell 1
          have r2 := hd4.free 0
          have r3 := hd4.free 1
          simp at r0 r1
          have hret : Hid (Holds ((w1.setCell ⟨h4, 0, none⟩ (.int .i64 0)).setCell ⟨h4, 1, none⟩ (.slice none 0 0)) h4 39 #[.int .i64 0, .slice none 0 0] ∧ OneS (lastTag l) n B w (.returned (.tuple #[.agg #[.int .i64 0, .slice none 0 0], .int .i64 0, .int .i64 y])) ((w1.setCell ⟨h4, 0, none⟩ (.int .i64 0)).setCell ⟨h4, 1, none⟩ (.slice none 0 0))) := Lib.hid ⟨set_both hd4 _ _, hfin.out _ ((bl.setCell (p := ⟨h4, 0, none⟩) l4 _).setCell (p := ⟨h4, 1, none⟩) l4 _)⟩
          clear hA2 hbl bl hd4 hfin
          go_wp2
          exact sect_ret hret.out.1 hret.out.2 _ _ _ _ _ rfl rfl rfl rfl rfl
      · have he4 := p4 (by omega)
        have he5 := p5 (by omega)
        obtain ⟨bl, q1, q2, hd4, hdf⟩ := hall.out wr s3.bl
        have f0 := hdf.cell 5
        simp at f0
        have hA := Lib.hid (stepF_any w.heap.size n rl c wr q1)
        by_cases he : n < 16
        · have hA2 : Hid (Calls Try.prog 62 #[.pointer (some ⟨w.heap.size, 0, none⟩)] wr (fun en w1 => en = .returned (.int .i64 0) ∧ Come W0 hs hw hz r a cap (lastTag l) n B 6 w1)) := Lib.hid (hA.out.mono (by
            rintro en w1 ⟨rfl, m, rfl⟩
            exact ⟨by rw [if_pos he], .inr (.inr ⟨by omega, by omega, e1, e2, g, cc, hg, hcc, hse, .inr ⟨by omega, e3, s3.drewN m, fun _ => he4, fun _ => he5, fun _ => he⟩⟩)⟩
            ))
          clear hA hcome s3 hp1 hp2 hobs e1 e2 e3 p4 p5 p6 hse he4 he5 bl q1 q2 hd4 hdf he
          go_wp2_with fail
          refine hA2.out.mono ?_
          rintro en w1 ⟨rfl, hc1⟩
          have hc1' := Lib.hid hc1
          clear hc1 hA2
          go_wp2
          go_roundw
          case rel => exact ⟨6, by omega, by go_num, hc1'⟩
          case measure => simp [intOf]
        · have hE : oneE (lastTag l) n B = 3 := by
            unfold oneE; rw [if_neg (by simp [e1]), if_neg (by simp [e2]), if_neg (by simp [e3]), if_pos he4, if_pos he5, if_neg he]
          have hA2 : Hid (Calls Try.prog 62 #[.pointer (some ⟨w.heap.size, 0, none⟩)] wr (fun en w1 => en = .returned (.int .i64 (oneE (lastTag l) n B)) ∧ BelowE (XS r hs hw hz) W0.heap.size W0 w1)) := Lib.hid (hA.out.mono (by
            rintro en w1 ⟨rfl, m, rfl⟩
            exact ⟨by rw [hE, if_neg he], s3.bl.drewN m⟩
            ))
          have hne : oneE (lastTag l) n B ≠ 0 := by rw [hE]; omega
          clear hA hcome s3 hp1 hp2 hobs e1 e2 e3 p4 p5 p6 hse he4 he5 bl q1 q2 hd4 hdf he hE
          have hfin : Hid (∀ w1, Below w.heap.size w w1 → OneS (lastTag l) n B w (.returned (.tuple #[.agg #[.int .i64 0, .slice none 0 0], .int .i64 0, .int .i64 (oneE (lastTag l) n B)])) w1) := Lib.hid (fun w1 hb1 => ⟨hb1, .inr ⟨hne, rfl⟩⟩)
          generalize oneE (lastTag l) n B = y at *
          have y1 : (y == 0) = false := by simpa using hne
          go_wp2_with fail
          refine hA2.out.mono ?_
          rintro en w1 ⟨rfl, hbl⟩
          obtain ⟨bl, -, -, hd4, -⟩ := hall.out w1 hbl
          have r0 := hd4.cell 0
          have r1 := hd4.cell 1
          have r2 := hd4.free 0
          have r3 := hd4.free 1
          simp at r0 r1
          have hret : Hid (Holds ((w1.setCell ⟨h4, 0, none⟩ (.int .i64 0)).setCell ⟨h4, 1, none⟩ (.slice none 0 0)) h4 39 #[.int .i64 0, .slice none 0 0] ∧ OneS (lastTag l) n B w (.returned (.tuple #[.agg #[.int .i64 0, .slice none 0 0], .int .i64 0, .int .i64 y])) ((w1.setCell ⟨h4, 0, none⟩ (.int .i64 0)).setCell ⟨h4, 1, none⟩ (.slice none 0 0))) := Lib.hid ⟨set_both hd4 _ _, hfin.out _ ((bl.setCell (p := ⟨h4, 0, none⟩) l4 _).setCell (p := ⟨h4, 1, none⟩) l4 _)⟩
          clear hA2 hbl bl hd4 hfin
          go_wp2
          exact sect_ret hret.out.1 hret.out.2 _ _ _ _ _ rfl rfl rfl rfl rfl
      · have he4 := p4 (by omega)
        have he5 := p5 (by omega)
        have he6 := p6 (by omega)
        have hE : oneE (lastTag l) n B = 0 := by unfold oneE; rw [if_neg (by simp [e1]), if_neg (by simp [e2]), if_neg (by simp [e3]), if_pos he4, if_pos he5, if_pos he6]
        obtain ⟨bl, q1, q2, hd4, hdf⟩ := hall.out wr s3.bl
        have r0 := hd4.cell 0
        have r1 := hd4.cell 1
        have r2 := hd4.free 0
        have r3 := hd4.free 1
        simp at r0 r1
        have m1 : hs ≠ h4 := fun e => n4 (by simp [XS, e])
        have m2 : r ≠ h4 := fun e => n4 (by simp [XS, e])
        have t0 := s3.sc.cell 0
        have t1 := s3.sc.cell 1
        simp at t0 t1
        have t2 := s3.hbox C'.out
        have hc0 : ∀ W', BelowE [h4] wr.heap.size wr W' → W'.cell? ⟨hs, 0, none⟩ = some (.int .i64 (oneT B).1) := fun W' hb => (hb.cell (p := ⟨hs, 0, none⟩) s3.sc.lt (by simpa using m1)).trans t0
        have hc1 : ∀ W', BelowE [h4] wr.heap.size wr W' → W'.cell? ⟨hs, 1, none⟩ = some (.slice (some ⟨g, 0, none⟩) (oneX B).1.size cc) := fun W' hb => (hb.cell (p := ⟨hs, 1, none⟩) s3.sc.lt (by simpa using m1)).trans t1
        have hc2 : ∀ W', BelowE [h4] wr.heap.size wr W' → W'.cell? ⟨hr, 0, none⟩ = some (.pointer (some ⟨r, 0, none⟩)) := fun W' hb => (hb.cell (p := ⟨hr, 0, none⟩) (World.block_lt_of_cell? _ _ t2) (by simpa using n5)).trans t2
        have hat : Hid (∀ W', BelowE [h4] wr.heap.size wr W' → Calls Try.prog 54 #[.pointer (some ⟨r, 0, none⟩)] W' fun e' w' => e' = .returned (.int .i64 ((oneW B).2.1 : Nat)) ∧ W' = w') := Lib.hid (fun W' hb => at_any r _ W' ((hb.cell (p := ⟨r, 1, none⟩) s3.rd.lt (by simpa using m2)).trans s3.at1))
        have hgh : g ≠ h4 := by omega
        have hfin : Hid (Holds ((wr.setCell ⟨h4, 0, none⟩ (.int .i64 (oneT B).1)).setCell ⟨h4, 1, none⟩ (.slice (some ⟨g, 0, none⟩) (oneX B).1.size cc)).drew h4 39 #[.int .i64 (oneT B).1, .slice (some ⟨g, 0, none⟩) (oneX B).1.size cc] ∧ OneS (lastTag l) n B w (.returned (.tuple #[.agg #[.int .i64 (oneT B).1, .slice (some ⟨g, 0, none⟩) (oneX B).1.size cc], .int .i64 ((oneW B).2.1 : Nat), .int .i64 0])) ((wr.setCell ⟨h4, 0, none⟩ (.int .i64 (oneT B).1)).setCell ⟨h4, 1, none⟩ (.slice (some ⟨g, 0, none⟩) (oneX B).1.size cc)).drew) := Lib.hid (by
          refine ⟨(set_both hd4 _ _).drew, ((bl.setCell (p := ⟨h4, 0, none⟩) l4 _).setCell (p := ⟨h4, 1, none⟩) l4 _).drew, .inl ⟨hE, g, cc, rfl, by omega, hcc, ?_⟩⟩
          have f1 := sees_far (q := ⟨h4, 0, none⟩) (u := .int .i64 (oneT B).1) hse hgh
          have f2 := sees_far (q := ⟨h4, 1, none⟩) (u := .slice (some ⟨g, 0, none⟩) (oneX B).1.size cc) f1 hgh
          have f3 : Sees .u8 wr.heap.size ((wr.setCell ⟨h4, 0, none⟩ (.int .i64 (oneT B).1)).setCell ⟨h4, 1, none⟩ (.slice (some ⟨g, 0, none⟩) (oneX B).1.size cc)).drew (some ⟨g, 0, none⟩) (codes (oneX B).1) := f2
          simpa [World.setCell] using f3)
        clear hcome s3 hp1 hp2 hobs e1 e2 e3 p4 p5 p6 hse he4 he5 he6 hE bl q1 q2 hd4 hdf t0 t1 t2 m1 m2 hall
        generalize (oneT B).1 = tg at *
        generalize (oneW B).2.1 = nn at *
        generalize (oneX B).1.size = sz at *
        go_wp2
        refine wp_drawn_on (fun W' => BelowE [h4] wr.heap.size wr W') (by kernel_rfl) ((BelowE.refl _ _ _).drew) (fun hHeld => ?_)
        refine wpAnyH_take (i := 0) (oi := { dst := some 51, op := Go.Op.load 39 (Go.Operand.tmp 7), type := 39, pos := "sect.go:87", after := #[], guard := none }) (v := ?v1) rfl (by kernel_rfl) (by kernel_rfl) (by kernel_rfl) (fun _ _ _ h => h) (Or.inl ⟨by kernel_rfl, ?h1⟩) (by assumption) ?r1
        case h1 => (intro w hSw; (try dsimp only at hSw); go_simp; try with_reducible rfl)
        try simp only [Act.put, List.setIfInBounds_toArray, List.set_cons_zero, List.set_cons_succ]
        refine wpAnyH_take (i := 1) (oi := { dst := some 52, op := Go.Op.load 76 (Go.Operand.tmp 10), type := 76, pos := "sect.go:87", after := #[], guard := none }) (v := ?v2) rfl (by kernel_rfl) (by kernel_rfl) (by kernel_rfl) (fun _ _ _ h => h) (Or.inl ⟨by kernel_rfl, ?h2⟩) (by assumption) ?r2
        case h2 => (intro w hSw; (try dsimp only at hSw); go_simp; try with_reducible rfl)
        try simp only [Act.put, List.setIfInBounds_toArray, List.set_cons_zero, List.set_cons_succ]
        refine wpAnyH_ready (rs := [2]) (by kernel_rfl) (by simp) ?_
        refine AllReadyH.cons (o := { dst := some 53, op := Go.Op.call { callee := Go.Callee.value (Go.Operand.func 54), args := #[Go.Operand.tmp 52], argTypes := #[76] }, type := 3, pos := "sect.go:87", after := #[{ on := 1, ground := Go.Ground.data }], guard := none }) rfl (fun K hK => ?_) AllReadyH.nil
        go_simp
        refine (hat.out _ hHeld).mono ?_
        rintro e w1 ⟨rfl, rfl⟩
        go_simp
        refine hK.out _ _ hHeld (fun hHeld => ?_)
        clear hK K
        try simp only [Act.put, List.setIfInBounds_toArray, List.set_cons_zero, List.set_cons_succ]
        refine wpAnyH_ready (rs := [3]) (by kernel_rfl) (by simp) ?_
        refine AllReadyH.cons (o := { dst := none, op := Go.Op.store 39 (Go.Operand.tmp 4) (Go.Operand.tmp 51), type := 0, pos := "sect.go:87", after := #[{ on := 0, ground := Go.Ground.data }, { on := 2, ground := Go.Ground.chain }, { on := 0, ground := Go.Ground.phase }, { on := 1, ground := Go.Ground.textOnly Go.Departure.lateStores }, { on := 2, ground := Go.Ground.textOnly Go.Departure.lateStoresUnsure }], guard := none }) rfl (fun K hK => ?_) AllReadyH.nil
        go_simp
        refine hK.out _ _ ((hHeld.setIn (p := ⟨h4, 0, none⟩) (by simp) _).setIn (p := ⟨h4, 1, none⟩) (by simp) _) (fun hHeld => ?_)
        clear hK K
        try simp only [Act.put, List.setIfInBounds_toArray, List.set_cons_zero, List.set_cons_succ]
        refine wpAnyH_take (i := 4) (oi := { dst := some 5, op := Go.Op.assign (Go.Operand.tmp 53), type := 3, pos := "sect.go:87", after := #[{ on := 2, ground := Go.Ground.data }, { on := 3, ground := Go.Ground.chain }, { on := 0, ground := Go.Ground.phase }, { on := 1, ground := Go.Ground.phase }, { on := 2, ground := Go.Ground.phase }, { on := 3, ground := Go.Ground.phase }], guard := none }) (v := ?v3) rfl (by kernel_rfl) (by kernel_rfl) (by kernel_rfl) (fun _ _ _ h => h) (Or.inl ⟨by kernel_rfl, ?h3⟩) (by assumption) ?r3
        case h3 => (intro w hSw; (try dsimp only at hSw); go_simp; try with_reducible rfl)
        try simp only [Act.put, List.setIfInBounds_toArray, List.set_cons_zero, List.set_cons_succ]
        refine wpAnyH_take (i := 5) (oi := { dst := some 6, op := Go.Op.assign (Go.Operand.const (Go.Value.int Go.IntKind.i64 0)), type := 26, pos := "sect.go:87", after := #[{ on := 4, ground := Go.Ground.chain }, { on := 0, ground := Go.Ground.phase }, { on := 1, ground := Go.Ground.phase }, { on := 2, ground := Go.Ground.phase }, { on := 3, ground := Go.Ground.phase }, { on := 4, ground := Go.Ground.phase }], guard := none }) (v := ?v4) rfl (by kernel_rfl) (by kernel_rfl) (by kernel_rfl) (fun _ _ _ h => h) (Or.inl ⟨by kernel_rfl, ?h4⟩) (by assumption) ?r4
        case h4 => (intro w hSw; (try dsimp only at hSw); go_simp; try with_reducible rfl)
        try simp only [Act.put, List.setIfInBounds_toArray, List.set_cons_zero, List.set_cons_succ]
        refine wpAnyH_done (by kernel_rfl) ?_ _
        go_wp2
        exact sect_ret hfin.out.1 hfin.out.2 _ _ _ _ _ rfl rfl rfl rfl rfl
theorem one_any (rl : Option Addr) (l : List Sc) (n c : Nat) (hn : n = l.length) (hl : n ≤ 1000) (aB : Option Addr) (B : List Int) (nB cB : Nat) (hnB : nB = B.length) (hBl : nB ≤ 100000000) (hcB : nB ≤ cB) (hB : Bs B) (w : World)
    (h : SecS w.heap.size w rl l) (hs : Sees .u8 w.heap.size w aB B) :
    Calls Try.prog 28 #[.slice rl n c, .slice aB nB cB] w (OneS (lastTag l) n B w) := by
  by_cases hc : nB ≤ 1048608
  · exact one_short rl l n c hn hl aB B nB cB hnB hBl hcB hB w h hs hc
  · exact one_long rl l n c hn hl aB B nB cB hnB hBl hcB hB w h hs (by omega)
end Go.Proofs.Ytnjdgnlgdokddaa
