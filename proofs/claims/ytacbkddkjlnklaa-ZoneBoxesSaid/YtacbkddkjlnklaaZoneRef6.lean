/- Zones changed: the document's Let, of the variable itself. -/
import Derived.Test.YtacbkddkjlnklaaZoneRef5
namespace Go.Proofs.Ytacbkddkjlnklaa
open Go.RowKit
set_option linter.unusedVariables false
set_option linter.unusedSimpArgs false

theorem B1.set {w W : World} {x y : Value} (h : B1 w W x y) {g : Nat} (hg : w.heap.size + 2 ≤ g) (o : Nat) (u : Value) : B1 w (W.setCell ⟨g, o, none⟩ u) x y := by
  have hE : BelowE [g] W.heap.size W (W.setCell ⟨g, o, none⟩ u) := (BelowE.refl _ _ _).setIn (p := ⟨g, o, none⟩) (by simp) _
  exact ⟨h.bl.setCell (p := ⟨g, o, none⟩) (by show _ ≤ g; omega) _, h.z1.belowE hE h.z1.lt (by simp; omega), h.z2.belowE hE h.z2.lt (by simp; omega)⟩
set_option maxRecDepth 100000 in
set_option maxHeartbeats 2000000 in
theorem rlet_eq (n : Nat) (l : List Int) (hF : Full n l) (i : Nat) (hi : i ≤ n) (c : Int) (hc1 : c ≤ 2199023255552) (hc2 : -2199023255552 ≤ c) (a : Option Addr) (m ca : Nat) (w : World) (h : SL w a m ca l) : Calls Try.prog 31 #[.agg #[.int .i64 n, .slice a m ca], .int .i64 i, .int .i64 i, .int .i64 c] w (ZoneN n (closedL n (movL n l i c)) w) := by
  obtain ⟨i0, hii, hz0, hz1, hz2⟩ := info_parts infoInt
  obtain ⟨W1, hW1⟩ : ∃ W1, W1 = (w.alloc (.cells #[.int .i64 n, .slice a m ca] 24)).alloc (.cells #[.int .i64 0, .slice none 0 0] 24) := ⟨_, rfl⟩
  have X1 : B1 w W1 (.int .i64 n) (.slice a m ca) := by rw [hW1]; exact b1_new _ _ _
  have hpos := sz_pos n
  have hs81 := sz_le hF.le
  have hn8 : (n : Int) ≤ 8 := by have := hF.le; omega
  have hm : m = sz n := by rw [h.len, hF.len]
  have p1 : ((m : Int) == 0) = false := by simp; omega
  have p2 : ¬ (m : Int) = 0 := by omega
  have g1 : ¬ 2199023255552 < c := by omega
  have g2 : ¬ c < -2199023255552 := by omega
  have hwn : IntKind.i64.wrap ((n : Int) + 1) = (n : Int) + 1 := wrap_small (by omega) (by omega)
  have hl : l.length = sz n := hF.len
  have hlb := full_all hF
  have hlen : Hid (∀ k, (othK (fun x => x + c) (fun x => x - c) n i l k).length = m) := Lib.hid (fun k => by rw [othK_len, hl, hm])
  have hstep : Hid (∀ k, othK (fun x => x + c) (fun x => x - c) n i l (k + 1) = if k = i then othK (fun x => x + c) (fun x => x - c) n i l k else pairL (fun x => x + c) (fun x => x - c) (othK (fun x => x + c) (fun x => x - c) n i l k) (i * (n + 1) + k) (k * (n + 1) + i)) := Lib.hid (fun k => rfl)
  have hpw := Lib.hid (fun k (hk : k ≤ n) => And.intro (place_wraps hF.le hi hk) (place_wraps hF.le hk hi))
  have hpv : Hid (∀ k, k ≤ n → k ≠ i → (-9000000000000 ≤ (othK (fun x => x + c) (fun x => x - c) n i l k).getD (i * (n + 1) + k) 0 ∧ (othK (fun x => x + c) (fun x => x - c) n i l k).getD (i * (n + 1) + k) 0 ≤ 9000000000000) ∧ (-9000000000000 ≤ (othK (fun x => x + c) (fun x => x - c) n i l k).getD (k * (n + 1) + i) 0 ∧ (othK (fun x => x + c) (fun x => x - c) n i l k).getD (k * (n + 1) + i) 0 ≤ 9000000000000)) := Lib.hid (fun k hk hki => by
    obtain ⟨e1, e2⟩ := othK_places (F := fun x => x + c) (G := fun x => x - c) hi hk hki hl
    rw [e1, e2]
    have r1 := hlb (i * (n + 1) + k)
    have r2 := hlb (k * (n + 1) + i)
    unfold mat
    omega)
  have hpd : Hid (∀ k, k ≤ n → k ≠ i → i * (n + 1) + k ≠ k * (n + 1) + i) := Lib.hid (fun k hk hki e => by
    have := congrArg (fun x => x % (n + 1)) e
    simp only [place_mod hk, place_mod hi] at this
    exact hki this)
  have hst : Hid (othK (fun x => x + c) (fun x => x - c) n i l 0 = l) := Lib.hid rfl
  have hrc := Lib.hid (fun b cb W (hs : Sees .i64 W.heap.size W b (movL n l i c)) => rclose_any n hF.le b (movL n l i c) m cb (by unfold movL; rw [hlen.out]) hm W hs)
  have hsm : Hid ((closedL n (movL n l i c)).length ≤ 1000) := Lib.hid (by have := closed_small hF.le (movL n l i c); omega)
  have hlm := Lib.hid (show l.length = m by rw [hF.len, hm])
  have hmb : m ≤ 81 := by omega
  have hS := Lib.hid (h.below X1.bl)
  have X1' := Lib.hid X1
  have k0 := X1.z1.cell 0
  have k1 := X1.z1.cell 1
  have hW1' := Lib.hid hW1
  have hbe : Hid (Below W1.heap.size W1 (W1.alloc (.cells #[] 3))) := Lib.hid (box_below _ _ _)
  have hsz1 : Hid (W1.heap.size = w.heap.size + 1 + 1) := Lib.hid (by rw [hW1]; simp)
  have hm0 : Hid (m ≠ 0) := Lib.hid (by omega)
  have hms : Hid (m = sz n) := Lib.hid hm
  have hmv : movL n l i c = othK (fun x => x + c) (fun x => x - c) n i l (n + 1) := rfl
  rw [hmv] at hrc hsm ⊢
  clear hW1 X1 h hF hpos hlb hl hmv hs81 hm
  generalize hQ : othK (fun x => x + c) (fun x => x - c) n i l = Q at *
  clear hQ
  generalize closedL n (Q (n + 1)) = R at *
  go_enter Try.func31, Try.ntmps31
  go_wp2_with (at_builtin; rw [← hW1'.out]; refine wpList_append_sees _ rfl (.tmp 45) (.tmp 47) 22 rfl W1 3 i0 (.int .i64 0) 8 Try.underlying22 hii hz0 hz1 hz2 rfl .i64 _ [] (by exact own_empty 3 .i64 (Below.refl _ W1)) (by exact hbe.out) W1.heap.size a l (by exact hS.out.sees.below hbe.out) m ca hS.out.len (by rw [hsz1.out]; rfl) rfl (by have := hlm.out; simp; omega) (by omega) ?_; intro v2 w2 hown2 hw2; simp only [List.nil_append] at hown2; rw [hlm.out] at hown2; obtain ⟨g, cap, rfl, hg⟩ := own_some hown2 hm0.out; have X2 := Lib.hid (X1'.out.on hw2); have O2 := Lib.hid hown2; clear hown2 hw2 k0 k1)
  have hglt := Lib.hid (O2.out.lt g rfl).1
  go_loopw [11] (fun x wr => ∃ k : Nat, k ≤ n + 1 ∧ x = .int .i64 k ∧ Hid (wr.ownsRow W1.heap.size 3 1 (.slice (some ⟨g, 0, none⟩) m cap) m (nums .i64 (Q k))) ∧ Hid (B1 w wr (.int .i64 n) (.slice a m ca))) (fun x _ => n + 1 - (intOf x).toNat)
  case atStart => exact ⟨0, by omega, rfl, Lib.hid (by rw [hst.out]; exact O2.out), X2⟩
  case round =>
    clear O2 X2
    obtain ⟨k, hkn, rfl, hown, hX⟩ := hrel
    by_cases hlt : k < n + 1
    · have hki : (k : Int) < (n : Int) + 1 := by omega
      by_cases hk : k = i
      · subst hk
        have hnx : Hid (wr.ownsRow W1.heap.size 3 1 (.slice (some ⟨g, 0, none⟩) m cap) m (nums .i64 (Q (k + 1)))) := Lib.hid (by rw [hstep.out, if_pos rfl]; exact hown.out)
        clear hown
        go_wp2
        go_roundw
        case rel => exact ⟨k + 1, by omega, by go_num, hnx, hX⟩
        case measure => simp [intOf]; omega
      · have hne : ((k : Int) != (i : Int)) = true := by simp; omega
        have hne2 : ¬ (k : Int) = (i : Int) := by omega
        obtain ⟨⟨r1, q1, -, u2, u3, e1, s1, -, -, -⟩, ⟨r2, q2, -, u5, u6, e2, s2, -, -, -⟩⟩ := hpw.out k (by omega)
        have hd := hpd.out k (by omega) hk
        have hv := hpv.out k (by omega) hk
        have hnx : Hid (pairL (fun x => x + c) (fun x => x - c) (Q k) (i * (n + 1) + k) (k * (n + 1) + i) = Q (k + 1)) := Lib.hid (by rw [hstep.out, if_neg hk])
        rw [← e1, ← e2] at hd hv hnx
        have hlk := hlen.out k
        have o1 := own_put hown.out q1 ((Q k).getD q1 0 + c)
        have o2 := own_put o1 q2 ((Q k).getD q2 0 - c)
        have hms' := hms.out
        have m0 := own_at hown.out (i := q1) (by omega)
        have m1 := own_at hown.out (i := q2) (by omega)
        have mf := hown.out.frozenAt q1
        have m2 : (wr.setCell ⟨g, q1, none⟩ (.int .i64 ((Q k).getD q1 0 + c))).cell? ⟨g, q2, none⟩ = some (.int .i64 ((Q k).getD q2 0)) := by
          have := own_at o1 (i := q2) (by rw [List.length_set]; omega)
          rw [this]
          simp [List.getD, List.getElem?_set, hd]
        have mg := o1.frozenAt q2
        have hgs : Hid (w.heap.size + 2 ≤ g) := Lib.hid (by have := hglt.out; have := hsz1.out; omega)
        have hY := Lib.hid ((hX.out.set hgs.out q1 (.int .i64 ((Q k).getD q1 0 + c))).set hgs.out q2 (.int .i64 ((Q k).getD q2 0 - c)))
        have hO : Hid (((wr.setCell ⟨g, q1, none⟩ (.int .i64 ((Q k).getD q1 0 + c))).setCell ⟨g, q2, none⟩ (.int .i64 ((Q k).getD q2 0 - c))).ownsRow W1.heap.size 3 1 (.slice (some ⟨g, 0, none⟩) m cap) m (nums .i64 (Q (k + 1)))) := Lib.hid (by rw [← hnx.out]; exact o2)
        have hq1 : (q1 : Int) < (m : Int) := by omega
        have hq2 : (q2 : Int) < (m : Int) := by omega
        clear o1 o2 hown hX hnx e1 e2 s1 s2 hlk hms' hd
        generalize (Q k).getD q1 0 = x at *
        generalize (Q k).getD q2 0 = y at *
        have hwa : IntKind.i64.wrap (x + c) = x + c := wrap_small (by omega) (by omega)
        have hwb : IntKind.i64.wrap (y - c) = y - c := wrap_small (by omega) (by omega)
        clear hv
        go_wp2
        go_roundw
        case rel => exact ⟨k + 1, by omega, by go_num, hO, hY⟩
        case measure => simp [intOf]; omega
    · have hke : k = n + 1 := by omega
      have hki : ¬ (k : Int) < (n : Int) + 1 := by omega
      have hw := hown.out
      rw [hke] at hw
      obtain ⟨b5, c5, hv5, -, hs⟩ := sees_own hw
      injection hv5 with v1 v2 v3
      subst v1 v3
      have hcall := Lib.hid (hrc.out _ cap wr hs)
      have k0 := hX.out.z1.cell 0
      clear hown hs hrc hw v2
      go_wp2_with fail
      refine hcall.out.mono ?_
      intro e w7 hz7
      obtain ⟨a7, m7, c7, rfl, s7, b7, nw7⟩ := zoneN_of hsm.out hz7
      have Zd := hX.out.z2.below b7 hX.out.z2.lt
      have y0 := Zd.cell 0
      have y1 := Zd.cell 1
      have f0 := Zd.free 0
      have f1 := Zd.free 1
      have hfin := Lib.hid (zone_putN (n := n) hX.out.bl (by omega) hX.out.z2 s7 b7 nw7)
      clear Zd hcall hz7
      go_wp2
      exact zone_ret hfin.out.1 hfin.out.2 _ _ 8 rfl rfl rfl
end Go.Proofs.Ytacbkddkjlnklaa
