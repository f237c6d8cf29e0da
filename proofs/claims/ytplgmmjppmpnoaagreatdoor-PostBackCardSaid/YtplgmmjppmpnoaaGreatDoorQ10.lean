import Derived.Test.YtplgmmjppmpnoaaGreatDoorQ02
import Derived.Test.YtplgmmjppmpnoaaGreatDoorQ09
/- Zones changed: the document's Var, Or0, Limit, Itv. -/
namespace Go.Proofs.YtplgmmjppmpnoaaGreatDoor
open Go.RowKit
set_option linter.unusedVariables false
set_option linter.unusedSimpArgs false

theorem b1_new2 (w : World) (x y x2 y2 : Value) : Below w.heap.size w ((w.alloc (.cells #[x, y] 24)).alloc (.cells #[x2, y2] 24)) ∧ ZH ((w.alloc (.cells #[x, y] 24)).alloc (.cells #[x2, y2] 24)) (w.heap.size + 1) x2 y2 := by
  refine ⟨box2_below _ _ _ _ _, ?_⟩
  have := Holds.new (w.alloc (.cells #[x, y] 24)) 24 #[x2, y2]
  simpa using this
theorem rlim_nil (n : Nat) (i j c : Int) (a : Option Addr) (ca : Nat) (w : World) : Calls Tryz.prog 48 #[.agg #[.int .i64 n, .slice a 0 ca], .int .i64 i, .int .i64 j, .int .i64 c] w (ZoneN n [] w) := by
  obtain ⟨hb, hz⟩ := b1_new2 w (.int .i64 n) (.slice a 0 ca) (.int .i64 n) (.slice a 0 ca)
  have hb' := Lib.hid hb
  have hz' := Lib.hid hz
  clear hb hz
  go_enter Tryz.func48, Tryz.ntmps48
  go_wp2
  exact zone_ret hz'.out ⟨a, 0, ca, rfl, ⟨rfl, Nat.zero_le _, by omega, .inl rfl⟩, hb'.out, .inl rfl⟩ _ _ 8 rfl rfl rfl
set_option maxRecDepth 100000 in
set_option maxHeartbeats 1000000 in
theorem rlim_full (n : Nat) (l : List Int) (hF : Full n l) (i j : Nat) (hi : i ≤ n) (hj : j ≤ n) (c : Int) (a : Option Addr) (m ca : Nat) (w : World) (h : SL w a m ca l) : Calls Tryz.prog 48 #[.agg #[.int .i64 n, .slice a m ca], .int .i64 i, .int .i64 j, .int .i64 c] w (ZoneN n (closedL n (limL n l i j c)) w) := by
  obtain ⟨i0, hii, hz0, hz1, hz2⟩ := info_parts infoInt
  obtain ⟨W1, hW1⟩ : ∃ W1, W1 = (w.alloc (.cells #[.int .i64 n, .slice a m ca] 24)).alloc (.cells #[.int .i64 0, .slice none 0 0] 24) := ⟨_, rfl⟩
  have X1 : B1 w W1 (.int .i64 n) (.slice a m ca) := by rw [hW1]; exact b1_new _ _ _
  have hpos := sz_pos n
  have hs81 := sz_le hF.le
  have hm : m = sz n := by rw [h.len, hF.len]
  have p1 : ((m : Int) == 0) = false := by simp; omega
  have p2 : ¬ (m : Int) = 0 := by omega
  obtain ⟨p, q, u1, u2, u3, hq, hqs, -, -, -⟩ := place_wraps hF.le hi hj
  have hqm : (q : Int) < (m : Int) := by omega
  have hL : limL n l i j c = l.set q (min (l.getD q 0) c) := by unfold limL; rw [hq]
  have hrc := Lib.hid (fun b cb W (hs : Sees .i64 W.heap.size W b (limL n l i j c)) => rclose_any n hF.le b (limL n l i j c) m cb (by rw [limL_len, hF.len, hm]) hm W hs)
  have hsm : Hid ((closedL n (limL n l i j c)).length ≤ 1000) := Lib.hid (by have := closed_small hF.le (limL n l i j c); omega)
  have hlm := Lib.hid (show l.length = m by rw [hF.len, hm])
  have hmb : m ≤ 81 := by omega
  have hS := Lib.hid (h.below X1.bl)
  have X1' := Lib.hid X1
  have k0 := X1.z1.cell 0
  have k1 := X1.z1.cell 1
  have hW1' := Lib.hid hW1
  have hbe : Hid (Below W1.heap.size W1 (W1.alloc (.cells #[] 3))) := Lib.hid (box_below _ _ _)
  have hsz1 : Hid (W1.heap.size = w.heap.size + 1 + 1) := Lib.hid (by rw [hW1]; simp)
  have hm0 : Hid (m ≠ 0) := Lib.hid (by omega)
  obtain ⟨x, hx⟩ : ∃ x, x = l.getD q 0 := ⟨_, rfl⟩
  have hxl : Hid (l.getD q 0 = x) := Lib.hid hx.symm
  have hLlt : Hid (c < x → limL n l i j c = l.set q c) := Lib.hid (fun hc => by rw [hL, ← hx, show min x c = c by omega])
  have hLge : Hid (¬ c < x → limL n l i j c = l) := Lib.hid (fun hc => by
    rw [hL, ← hx, show min x c = x by omega, hx]
    apply List.ext_getElem (by simp)
    intro t h1 h2
    rw [List.getElem_set]
    split
    · rename_i e; subst e; simp [List.getD, h2]
    · rfl)
  have hgoal : Hid (∀ (g cap : Nat) (W : World), B1 w W (.int .i64 n) (.slice a m ca) → W.ownsRow W1.heap.size 3 1 (.slice (some ⟨g, 0, none⟩) m cap) m (nums .i64 (limL n l i j c)) → Calls Tryz.prog 42 #[.int .i64 n, .slice (some ⟨g, 0, none⟩) m cap] W (fun e w' => ∃ a7 m7 c7, e = .returned (.agg #[.int .i64 n, .slice a7 m7 c7]) ∧ B1 w w' (.int .i64 n) (.slice a m ca) ∧ SL w' a7 m7 c7 (closedL n (limL n l i j c)) ∧ ZH ((w'.setCell ⟨w.heap.size + 1, 0, none⟩ (.int .i64 n)).setCell ⟨w.heap.size + 1, 1, none⟩ (.slice a7 m7 c7)) (w.heap.size + 1) (.int .i64 n) (.slice a7 m7 c7) ∧ ZoneN n (closedL n (limL n l i j c)) w (.returned (.agg #[.int .i64 n, .slice a7 m7 c7])) ((w'.setCell ⟨w.heap.size + 1, 0, none⟩ (.int .i64 n)).setCell ⟨w.heap.size + 1, 1, none⟩ (.slice a7 m7 c7)))) := Lib.hid (fun g cap W hX hO => by
    obtain ⟨b, cb, hv, -, ss⟩ := sees_own hO
    injection hv with e1 e2 e3
    subst e1 e3
    refine (hrc.out _ cap W ss).mono ?_
    intro e w7 hz7
    obtain ⟨a7, m7, c7, rfl, s7, b7, nw7⟩ := zoneN_of hsm.out hz7
    obtain ⟨f1, f2⟩ := zone_putN (n := n) hX.bl (by omega) hX.z2 s7 b7 nw7
    exact ⟨a7, m7, c7, rfl, hX.on b7, s7, f1, f2⟩)
  clear hW1 X1 h hF hm hpos hq hqs hL hx hrc hsm
  generalize limL n l i j c = L at *
  generalize closedL n L = R at *
  by_cases hc : c < x
  · have hLe := Lib.hid (hLlt.out hc)
    clear hLlt hLge
    go_enter Tryz.func48, Tryz.ntmps48
    go_wp2_with (at_builtin; rw [← hW1'.out]; refine wpList_append_sees _ rfl (.tmp 16) (.tmp 18) 22 rfl W1 3 i0 (.int .i64 0) 8 Tryz.underlying22 hii hz0 hz1 hz2 rfl .i64 _ [] (by exact own_empty 3 .i64 (Below.refl _ W1)) (by exact hbe.out) W1.heap.size a l (by exact hS.out.sees.below hbe.out) m ca hS.out.len (by rw [hsz1.out]; rfl) rfl (by have := hlm.out; simp; omega) (by omega) ?_; intro v2 w2 hown2 hw2; simp only [List.nil_append] at hown2; rw [hlm.out] at hown2; obtain ⟨g, cap, rfl, hg⟩ := own_some hown2 hm0.out; have m0 := own_at hown2 (i := q) (by have := hlm.out; omega); rw [hxl.out] at m0; have mf := hown2.frozenAt q; have X2 := Lib.hid (X1'.out.on hw2); have d0 := X2.out.z1.cell 0; have d1 := X2.out.z1.cell 1; have O2 := Lib.hid hown2; have d2 : (w2.setCell ⟨g, q, none⟩ (.int .i64 c)).cell? ⟨w.heap.size, 0, none⟩ = some (.int .i64 n) := (World.cell?_setCell_far w2 ⟨g, q, none⟩ ⟨w.heap.size, 0, none⟩ (.int .i64 c) (by have := hsz1.out; show g ≠ w.heap.size; omega)).trans d0; clear hown2 hw2 k0 k1)
    have hB1 : Hid (B1 w (w2.setCell ⟨g, q, none⟩ (.int .i64 c)) (.int .i64 n) (.slice a m ca)) := Lib.hid (by
      have hE : BelowE [g] w2.heap.size w2 (w2.setCell ⟨g, q, none⟩ (.int .i64 c)) := (BelowE.refl _ _ _).setIn (p := ⟨g, q, none⟩) (by simp) _
      have := hsz1.out
      exact ⟨X2.out.bl.setCell (p := ⟨g, q, none⟩) (by show _ ≤ g; omega) _, X2.out.z1.belowE hE X2.out.z1.lt (by simp; omega), X2.out.z2.belowE hE X2.out.z2.lt (by simp; omega)⟩)
    have hcall := Lib.hid (hgoal.out g cap _ hB1.out (by rw [hLe.out]; exact own_put O2.out q c))
    refine hcall.out.mono ?_
    rintro e w7 ⟨a7, m7, c7, rfl, Y, s7, z1, z2⟩
    have y0 := Y.z2.cell 0
    have y1 := Y.z2.cell 1
    have f0 := Y.z2.free 0
    have f1 := Y.z2.free 1
    have z1' := Lib.hid z1
    have z2' := Lib.hid z2
    clear Y s7 z1 z2
    go_wp2
    exact zone_ret z1'.out z2'.out _ _ 8 rfl rfl rfl
  · have hLe := Lib.hid (hLge.out hc)
    clear hLlt hLge
    go_enter Tryz.func48, Tryz.ntmps48
    go_wp2_with (at_builtin; rw [← hW1'.out]; refine wpList_append_sees _ rfl (.tmp 16) (.tmp 18) 22 rfl W1 3 i0 (.int .i64 0) 8 Tryz.underlying22 hii hz0 hz1 hz2 rfl .i64 _ [] (by exact own_empty 3 .i64 (Below.refl _ W1)) (by exact hbe.out) W1.heap.size a l (by exact hS.out.sees.below hbe.out) m ca hS.out.len (by rw [hsz1.out]; rfl) rfl (by have := hlm.out; simp; omega) (by omega) ?_; intro v2 w2 hown2 hw2; simp only [List.nil_append] at hown2; rw [hlm.out] at hown2; obtain ⟨g, cap, rfl, hg⟩ := own_some hown2 hm0.out; have m0 := own_at hown2 (i := q) (by have := hlm.out; omega); rw [hxl.out] at m0; have mf := hown2.frozenAt q; have X2 := Lib.hid (X1'.out.on hw2); have d0 := X2.out.z1.cell 0; have d1 := X2.out.z1.cell 1; have O2 := Lib.hid hown2; have B2' := Lib.hid hw2; clear hown2 hw2 k0 k1)
    have hcall := Lib.hid (hgoal.out g cap _ X2.out (by rw [hLe.out]; exact O2.out))
    refine hcall.out.mono ?_
    rintro e w7 ⟨a7, m7, c7, rfl, Y, s7, z1, z2⟩
    have y0 := Y.z2.cell 0
    have y1 := Y.z2.cell 1
    have f0 := Y.z2.free 0
    have f1 := Y.z2.free 1
    have z1' := Lib.hid z1
    have z2' := Lib.hid z2
    clear Y s7 z1 z2
    go_wp2
    exact zone_ret z1'.out z2'.out _ _ 8 rfl rfl rfl
theorem rnone_any (w : World) : Calls Tryz.prog 77 #[] w (Gives (.agg #[.int .i64 1, .int .i64 0]) w) := by
  go_enter Tryz.func77, Tryz.ntmps77
  go_wp2
  exact itv_ret (Holds.new w _ _) ⟨rfl, box_below _ _ _⟩ _ _ 0 rfl rfl rfl
end Go.Proofs.YtplgmmjppmpnoaaGreatDoor
/- Zones changed: the document's Itv, Forget. -/
namespace Go.Proofs.YtplgmmjppmpnoaaGreatDoor
open Go.RowKit
set_option linter.unusedVariables false
set_option linter.unusedSimpArgs false

end Go.Proofs.YtplgmmjppmpnoaaGreatDoor
/- Zones changed: the document's Forget. -/
namespace Go.Proofs.YtplgmmjppmpnoaaGreatDoor
open Go.RowKit
set_option linter.unusedVariables false
set_option linter.unusedSimpArgs false

def farAll (n : Nat) (l : List Int) (i : Nat) : List Int := (List.range (sz n)).map fun k => if k / (n + 1) = i ∨ k % (n + 1) = i then 4398046511104 else l.getD k 0
theorem farAll_len (n : Nat) (l : List Int) (i : Nat) : (farAll n l i).length = sz n := by simp [farAll]
theorem farAll_at {n : Nat} (l : List Int) (i : Nat) {a b : Nat} (ha : a ≤ n) (hb : b ≤ n) : mat n (farAll n l i) a b = if a = i ∨ b = i then 4398046511104 else mat n l a b := by
  have h := place_lt ha hb
  unfold mat farAll sz
  simp [List.getD, h, place_div hb, place_mod hb]
theorem far_clip {n i : Nat} (hi : i ≤ n) {l : List Int} (hF : Full n l) : clipL n (farAll n l i) = clipL n (forL n l i) := by
  refine mat_ext (clip_len _ _) (clip_len _ _) (fun a b ha hb => ?_)
  have hlen : l.length = (n + 1) * (n + 1) := hF.len
  unfold clipL
  rw [mat_matL _ ha hb, mat_matL _ ha hb]
  unfold clipF
  rw [farAll_at l i ha hb, show mat n (forL n l i) a b = _ from othK_at (F := fun _ => 4398046511104) (G := fun _ => 4398046511104) hi hlen (n + 1) (by omega) a b ha hb]
  by_cases h1 : a = i
  · subst h1
    by_cases h2 : b = a
    · subst h2
      have := hF.closed.zero b hi
      rw [if_pos (by omega), if_neg (by omega), if_neg (by omega), this]
      have : widestF b b = 0 := by unfold widestF; simp
      rw [this]
      decide
    · rw [if_pos (by omega), if_pos (by omega)]
  · by_cases h2 : b = i
    · subst h2
      rw [if_pos (by omega), if_neg (by omega), if_pos (by omega)]
    · rw [if_neg (by omega), if_neg (by omega), if_neg (by omega)]
theorem far_closed {n i : Nat} (hi : i ≤ n) {l : List Int} (hF : Full n l) : closedL n (farAll n l i) = closedL n (forL n l i) := by unfold closedL; rw [far_clip hi hF]
end Go.Proofs.YtplgmmjppmpnoaaGreatDoor
/- Zones changed: the document's Let, of another variable. -/
namespace Go.Proofs.YtplgmmjppmpnoaaGreatDoor
open Go.RowKit
set_option linter.unusedVariables false
set_option linter.unusedSimpArgs false

theorem rlim_any (n : Nat) (l : List Int) (hz : IsZ n l) (i j : Nat) (hi : i ≤ n) (hj : j ≤ n) (c : Int) (a : Option Addr) (m ca : Nat) (w : World) (h : SL w a m ca l) : Calls Tryz.prog 48 #[.agg #[.int .i64 n, .slice a m ca], .int .i64 i, .int .i64 j, .int .i64 c] w (ZoneN n (limitL n l i j c) w) := by
  unfold limitL stepL
  rcases hz.2 with e | hF
  · subst e
    have hm : m = 0 := by rw [h.len]; rfl
    subst hm
    rw [if_pos rfl]
    exact rlim_nil n i j c a ca w
  · rw [if_neg hF.ne]
    exact rlim_full n l hF i j hi hj c a m ca w h
end Go.Proofs.YtplgmmjppmpnoaaGreatDoor
/- Zones changed: the document's Let, of the variable itself. -/
namespace Go.Proofs.YtplgmmjppmpnoaaGreatDoor
open Go.RowKit
set_option linter.unusedVariables false
set_option linter.unusedSimpArgs false

theorem B1.set {w W : World} {x y : Value} (h : B1 w W x y) {g : Nat} (hg : w.heap.size + 2 ≤ g) (o : Nat) (u : Value) : B1 w (W.setCell ⟨g, o, none⟩ u) x y := by
  have hE : BelowE [g] W.heap.size W (W.setCell ⟨g, o, none⟩ u) := (BelowE.refl _ _ _).setIn (p := ⟨g, o, none⟩) (by simp) _
  exact ⟨h.bl.setCell (p := ⟨g, o, none⟩) (by show _ ≤ g; omega) _, h.z1.belowE hE h.z1.lt (by simp; omega), h.z2.belowE hE h.z2.lt (by simp; omega)⟩
end Go.Proofs.YtplgmmjppmpnoaaGreatDoor
/- Zones changed: to close once, or between two limits, comes to the same. -/
namespace Go.Proofs.YtplgmmjppmpnoaaGreatDoor
open Go.RowKit
set_option linter.unusedVariables false
set_option linter.unusedSimpArgs false

theorem limL_at {n : Nat} {l : List Int} (hl : l.length = sz n) {i j : Nat} (hi : i ≤ n) (hj : j ≤ n) (c : Int) {a b : Nat} (ha : a ≤ n) (hb : b ≤ n) : mat n (limL n l i j c) a b = if a = i ∧ b = j then min (mat n l i j) c else mat n l a b := by
  have hp : i * (n + 1) + j < l.length := by rw [hl]; exact place_lt hi hj
  by_cases e : a = i ∧ b = j
  · obtain ⟨rfl, rfl⟩ := e
    rw [if_pos ⟨rfl, rfl⟩]
    unfold mat limL
    simp [List.getD, hp]
  · rw [if_neg e]
    have hne : i * (n + 1) + j ≠ a * (n + 1) + b := by
      intro h
      have h1 := congrArg (fun x => x % (n + 1)) h
      have h2 := congrArg (fun x => x / (n + 1)) h
      simp only [place_mod hj, place_mod hb] at h1
      simp only [place_div hj, place_div hb] at h2
      exact e ⟨h2.symm, h1.symm⟩
    unfold mat limL
    simp [List.getD, List.getElem?_set, hne]
/-- A zone with valuations lies in another. -/
def Lies (n : Nat) (D A : List Int) : Prop := A ≠ [] ∧ Leq n (mat n D) (mat n A)
theorem lies_ext {n : Nat} {A B : List Int} (hA : IsZ n A) (hB : IsZ n B) (h : ∀ D, Full n D → (Lies n D A ↔ Lies n D B)) : A = B := by
  rcases hA.2 with eA | fA
  · rcases hB.2 with eB | fB
    · rw [eA, eB]
    · have := ((h B fB).2 ⟨fB.ne, fun i j _ _ => Int.le_refl _⟩).1
      exact absurd eA this
  · have h1 := (h A fA).1 ⟨fA.ne, fun i j _ _ => Int.le_refl _⟩
    have fB := hB.2.resolve_left h1.1
    have h2 := (h B fB).2 ⟨fB.ne, fun i j _ _ => Int.le_refl _⟩
    exact mat_ext fA.len fB.len (fun i j hi hj => Int.le_antisymm (h1.2 i j hi hj) (h2.2 i j hi hj))
theorem full_in {n : Nat} {D : List Int} (hD : Full n D) {i j : Nat} (hi : i ≤ n) (hj : j ≤ n) : mat n D i j ≤ widestF i j ∧ -2199023255552 ≤ mat n D i j := by
  have a := hD.up hi hj
  have b := hD.low hi hj
  have c := widestF_le j i
  omega
theorem lies_step {n : Nat} {D X : List Int} (hD : Full n D) (hX : IsZ n X) (f : List Int → List Int) (P : Prop) (hf : X ≠ [] → ((∀ i j, i ≤ n → j ≤ n → mat n D i j ≤ mat n (f X) i j) ↔ Leq n (mat n D) (mat n X) ∧ P)) : Lies n D (stepL n f X) ↔ Lies n D X ∧ P := by
  unfold stepL
  by_cases e : X = []
  · rw [if_pos e]
    constructor
    · intro h; exact absurd rfl h.1
    · intro h; exact absurd e h.1.1
  · rw [if_neg e]
    have hc : Leq n (mat n D) (mat n (clipL n (f X))) ↔ ∀ i j, i ≤ n → j ≤ n → mat n D i j ≤ mat n (f X) i j := by
      constructor
      · intro h i j hi hj
        have a := h i j hi hj
        unfold clipL at a
        rw [mat_matL _ hi hj] at a
        unfold clipF at a
        have := full_in hD hi hj
        omega
      · intro h i j hi hj
        have a := h i j hi hj
        have := full_in hD hi hj
        unfold clipL
        rw [mat_matL _ hi hj]
        unfold clipF
        omega
    constructor
    · intro h
      obtain ⟨-, -, h5⟩ := closedL_is h.1
      obtain ⟨q1, q2⟩ := (hf e).1 (hc.1 (fun i j hi hj => Int.le_trans (h.2 i j hi hj) (h5 i j hi hj)))
      exact ⟨⟨e, q1⟩, q2⟩
    · rintro ⟨⟨-, h1⟩, h2⟩
      obtain ⟨q1, q2⟩ := closedL_max hD.closed (hc.2 ((hf e).2 ⟨h1, h2⟩))
      exact ⟨closedL_ne q1, q2⟩
theorem lim_leq {n : Nat} {D l : List Int} (hl : l.length = sz n) {i j : Nat} (hi : i ≤ n) (hj : j ≤ n) (c : Int) : (∀ a b, a ≤ n → b ≤ n → mat n D a b ≤ mat n (limL n l i j c) a b) ↔ Leq n (mat n D) (mat n l) ∧ mat n D i j ≤ c := by
  constructor
  · intro h
    refine ⟨fun a b ha hb => ?_, ?_⟩
    · have q := h a b ha hb
      rw [limL_at hl hi hj c ha hb] at q
      split at q
      · rename_i e; obtain ⟨rfl, rfl⟩ := e; omega
      · exact q
    · have q := h i j hi hj
      rw [limL_at hl hi hj c hi hj, if_pos ⟨rfl, rfl⟩] at q
      omega
  · rintro ⟨h1, h2⟩ a b ha hb
    have q := h1 a b ha hb
    rw [limL_at hl hi hj c ha hb]
    split
    · rename_i e; obtain ⟨rfl, rfl⟩ := e; omega
    · exact q
theorem lies_limit {n : Nat} {D X : List Int} (hD : Full n D) (hX : IsZ n X) {i j : Nat} (hi : i ≤ n) (hj : j ≤ n) (c : Int) : Lies n D (limitL n X i j c) ↔ Lies n D X ∧ mat n D i j ≤ c :=
  lies_step hD hX _ _ (fun e => lim_leq (hX.2.resolve_left e).len hi hj c)
theorem lies_tie {n : Nat} {D X : List Int} (hD : Full n D) (hX : IsZ n X) {i j : Nat} (hi : i ≤ n) (hj : j ≤ n) (c : Int) : Lies n D (stepL n (fun l => tieL n l i j c) X) ↔ Lies n D X ∧ mat n D i j ≤ c ∧ mat n D j i ≤ -c :=
  lies_step hD hX _ _ (fun e => by
    have hl := (hX.2.resolve_left e).len
    show (∀ a b, a ≤ n → b ≤ n → mat n D a b ≤ mat n (limL n (limL n X i j c) j i (-c)) a b) ↔ _
    rw [lim_leq (by rw [limL_len, hl]) hj hi (-c), ← and_assoc]
    refine and_congr_left fun _ => ?_
    exact lim_leq hl hi hj c)
/-- Let of another variable: the program's way and the document's. -/
theorem tie_both {n : Nat} (hn : n ≤ 8) (l : List Int) {i j : Nat} (hi : i ≤ n) (hj : j ≤ n) (c : Int) : letTieL n l i j c = limitL n (limitL n (forgetL n l i) i j c) j i (-c) := by
  have hX : IsZ n (forgetL n l i) := stepL_isz hn _ _
  have hY : IsZ n (limitL n (forgetL n l i) i j c) := stepL_isz hn _ _
  refine lies_ext (stepL_isz hn _ _) (stepL_isz hn _ _) (fun D hD => ?_)
  rw [lies_limit hD hY hj hi, lies_limit hD hX hi hj, and_assoc]
  exact lies_tie hD hX hi hj c
/-- A number further off than two variables may lie makes nothing. -/
theorem tie_far {n : Nat} (hn : n ≤ 8) (l : List Int) {i j : Nat} (hi : i ≤ n) (hj : j ≤ n) (c : Int) (hc : 2199023255552 < c ∨ c < -2199023255552) : letTieL n l i j c = [] := by
  have hX : IsZ n (forgetL n l i) := stepL_isz hn _ _
  have hA : IsZ n (letTieL n l i j c) := stepL_isz hn _ _
  rcases hA.2 with e | fA
  · exact e
  · have h := (lies_tie fA hX hi hj c).1 ⟨fA.ne, fun a b _ _ => Int.le_refl _⟩
    have h1 := full_in fA hi hj
    have h2 := full_in fA hj hi
    have h3 := widestF_le i j
    have h4 := widestF_le j i
    obtain ⟨-, r1, r2⟩ := h
    omega
end Go.Proofs.YtplgmmjppmpnoaaGreatDoor
/- Zones changed: Let, the program's and the document's. -/
namespace Go.Proofs.YtplgmmjppmpnoaaGreatDoor
open Go.RowKit
set_option linter.unusedVariables false
set_option linter.unusedSimpArgs false

theorem mov_far {n : Nat} {l : List Int} (hz : IsZ n l) {i : Nat} (hi0 : 1 ≤ i) (hi : i ≤ n) (c : Int) (hc : 2199023255552 < c ∨ c < -2199023255552) : letMovL n l i c = [] := by
  unfold letMovL stepL
  split
  · rfl
  · rename_i hne
    have hF := hz.2.resolve_left hne
    by_cases e : closedL n (movL n l i c) = []
    · exact e
    · have fA := closed_full hF.le e
      obtain ⟨-, -, h5⟩ := closedL_is e
      have hlen : l.length = (n + 1) * (n + 1) := hF.len
      have a1 := h5 i 0 hi (Nat.zero_le n)
      have a2 := h5 0 i (Nat.zero_le n) hi
      unfold clipL at a1 a2
      rw [mat_matL _ hi (Nat.zero_le n)] at a1
      rw [mat_matL _ (Nat.zero_le n) hi] at a2
      unfold clipF at a1 a2
      rw [show mat n (movL n l i c) i 0 = _ from othK_at (F := fun x => x + c) (G := fun x => x - c) hi hlen (n + 1) (by omega) i 0 hi (Nat.zero_le n), if_pos (by omega)] at a1
      rw [show mat n (movL n l i c) 0 i = _ from othK_at (F := fun x => x + c) (G := fun x => x - c) hi hlen (n + 1) (by omega) 0 i (Nat.zero_le n) hi, if_neg (by omega), if_pos (by omega)] at a2
      have b1 := fA.low hi (Nat.zero_le n)
      have b2 := fA.low (Nat.zero_le n) hi
      have c1 := hF.up hi (Nat.zero_le n)
      have c2 := hF.up (Nat.zero_le n) hi
      have w1 : widestF i 0 = 1099511627776 := by unfold widestF; rw [if_neg (by omega), if_pos (by omega)]
      have w2 : widestF 0 i = 1099511627776 := by unfold widestF; rw [if_neg (by omega), if_pos (by omega)]
      omega
/-- A variable that is another one and a number, or itself and a number. -/
def letL (n : Nat) (l : List Int) (i j : Nat) (c : Int) : List Int := if i = j then letMovL n l i c else letTieL n l i j c
theorem letL_isz {n : Nat} (hn : n ≤ 8) (l : List Int) (i j : Nat) (c : Int) : IsZ n (letL n l i j c) := by
  unfold letL
  split
  · exact stepL_isz hn _ _
  · exact stepL_isz hn _ _
theorem letL_far {n : Nat} {l : List Int} (hz : IsZ n l) {i j : Nat} (hi0 : 1 ≤ i) (hi : i ≤ n) (hj : j ≤ n) (c : Int) (hc : 2199023255552 < c ∨ c < -2199023255552) : letL n l i j c = [] := by
  unfold letL
  split
  · exact mov_far hz hi0 hi c hc
  · exact tie_far hz.1 l hi hj c hc
theorem letL_nil (n i j : Nat) (c : Int) : letL n [] i j c = [] := by
  unfold letL letMovL letTieL stepL
  simp
theorem zlet_ok (n : Nat) (l : List Int) (hz : IsZ n l) (i j : Nat) (hi0 : 1 ≤ i) (hi : i ≤ n) (hj : j ≤ n) (c : Int) (a : Option Addr) (m ca : Nat) (w : World) (h : SL w a m ca l) : Calls Tryz.prog 67 #[.agg #[.int .i64 n, .slice a m ca], .int .i64 i, .int .i64 j, .int .i64 c] w (ZoneE n (letL n l i j c) 0 w) := by
  by_cases hij : i = j
  · subst hij
    by_cases h1 : c ≤ -4398046511104
    · have := zlet_mov_lo n l hz i hi0 hi c a m ca w h h1
      rw [mov_far hz hi0 hi _ (by omega)] at this
      rw [letL_far hz hi0 hi hj c (by omega)]
      exact this
    · by_cases h2 : 4398046511104 ≤ c
      · have := zlet_mov_hi n l hz i hi0 hi c a m ca w h h2
        rw [mov_far hz hi0 hi _ (by omega)] at this
        rw [letL_far hz hi0 hi hj c (by omega)]
        exact this
      · unfold letL
        rw [if_pos rfl]
        exact zlet_mov_in n l hz i hi0 hi c a m ca w h (by omega) (by omega)
  · by_cases h1 : c ≤ -4398046511104
    · have := zlet_tie_lo n l hz i j hi0 hi hj c a m ca w h hij h1
      rw [tie_far hz.1 l hi hj _ (by omega)] at this
      rw [letL_far hz hi0 hi hj c (by omega)]
      exact this
    · by_cases h2 : 4398046511104 ≤ c
      · have := zlet_tie_hi n l hz i j hi0 hi hj c a m ca w h hij h2
        rw [tie_far hz.1 l hi hj _ (by omega)] at this
        rw [letL_far hz hi0 hi hj c (by omega)]
        exact this
      · unfold letL
        rw [if_neg hij]
        exact zlet_tie_in n l hz i j hi0 hi hj c a m ca w h hij (by omega) (by omega)
end Go.Proofs.YtplgmmjppmpnoaaGreatDoor
/- ZoneTwo: the walk of the statement's function. (Written by gen-zone-two.py.) -/
namespace Go.Proofs.YtplgmmjppmpnoaaGreatDoor
open Go.RowKit
set_option linter.unusedVariables false
set_option linter.unusedSimpArgs false

theorem zrnil (w : World) (a : Option Addr) (c : Nat) (h : SL w a 0 c []) : Calls Tryz.prog 29 #[.agg #[.int .i64 0, .slice a 0 c], .agg #[.int .i64 0, .slice none 0 0]] w (Gives (.bool true) w) := by
  have := rsame_any 0 0 a none [] [] 0 0 c 0 w h (SL.nil w)
  simpa using this
theorem zrself (n : Int) (a1 a2 : Option Addr) (l : List Int) (m1 m2 c1 c2 : Nat) (w : World) (h1 : SL w a1 m1 c1 l) (h2 : SL w a2 m2 c2 l) :
    Calls Tryz.prog 29 #[.agg #[.int .i64 n, .slice a1 m1 c1], .agg #[.int .i64 n, .slice a2 m2 c2]] w (Gives (.bool true) w) := by
  have := rsame_any n n a1 a2 l l m1 m2 c1 c2 w h1 h2
  simpa using this
theorem meetL_small {n : Nat} {l1 l2 : List Int} (z1 : IsZ n l1) (z2 : IsZ n l2) : (meetL n l1 l2).length ≤ 81 := by
  unfold meetL
  split
  · simp
  · split
    · simp
    · exact closed_small z1.1 _
theorem joinL_small {n : Nat} {l1 l2 : List Int} (z1 : IsZ n l1) (z2 : IsZ n l2) : (joinL n l1 l2).length ≤ 81 := by
  unfold joinL
  split
  · exact z2.small
  · split
    · exact z1.small
    · exact closed_small z1.1 _
theorem widenL_small {n : Nat} {l1 l2 : List Int} (z1 : IsZ n l1) (z2 : IsZ n l2) : (widenL n l1 l2).length ≤ 81 := by
  unfold widenL
  split
  · exact z2.small
  · split
    · exact z1.small
    · exact closed_small z1.1 _
end Go.Proofs.YtplgmmjppmpnoaaGreatDoor
/- ZoneLeast: joins and meets as bounds; points. Plain lists. -/
namespace Go.Proofs.YtplgmmjppmpnoaaGreatDoor
open Go.RowKit
set_option linter.unusedVariables false
set_option linter.unusedSimpArgs false

theorem leqB_iff {n : Nat} {l1 l2 : List Int} (h1 : Full n l1) (h2 : Full n l2) : leqB l1 l2 = true ↔ Leq n (mat n l1) (mat n l2) := by
  unfold leqB
  rw [if_neg h1.ne, if_neg h2.ne, List.all_eq_true]
  constructor
  · intro h i j hi hj
    have := h (i * (n + 1) + j) (List.mem_range.2 (by rw [h1.len]; exact place_lt hi hj))
    exact of_decide_eq_true this
  · intro h t ht
    rw [List.mem_range, h1.len] at ht
    obtain ⟨q1, q2, q3⟩ := place_of ht
    have := h _ _ q1 q2
    unfold mat at this
    rw [q3] at this
    exact decide_eq_true this
theorem leqB_nil (l : List Int) : leqB [] l = true := by unfold leqB; rw [if_pos rfl]
theorem leqB_none {l : List Int} (h : l ≠ []) : leqB l [] = false := by unfold leqB; rw [if_neg h, if_pos rfl]
theorem pw_mat {n : Nat} {F : Int → Int → Int} {l1 l2 : List Int} (h1 : Full n l1) {i j : Nat} (hi : i ≤ n) (hj : j ≤ n) : mat n (pw F l1 l2) i j = F (mat n l1 i j) (mat n l2 i j) := by
  unfold mat
  exact pw_at F l1 l2 (by rw [h1.len]; exact place_lt hi hj)
theorem join_full {n : Nat} {l1 l2 : List Int} (h1 : Full n l1) (h2 : Full n l2) : closedL n (pw max l1 l2) = pw max l1 l2 := by
  refine closedL_fix (by rw [pw_len]; exact h1.len) ⟨fun i hi => ?_, fun i j k hi hj hk => ?_⟩ (fun i j hi hj => ?_)
  · rw [pw_mat h1 hi hi, h1.closed.zero i hi, h2.closed.zero i hi]; rfl
  · rw [pw_mat h1 hi hj, pw_mat h1 hi hk, pw_mat h1 hk hj]
    have a := h1.closed.tri i j k hi hj hk
    have b := h2.closed.tri i j k hi hj hk
    omega
  · rw [pw_mat h1 hi hj]
    have a := h1.up hi hj
    have b := h2.up hi hj
    omega
theorem join_is {n : Nat} {l1 l2 : List Int} (h1 : Full n l1) (h2 : Full n l2) : Full n (pw max l1 l2) := by
  have e := join_full h1 h2
  have hl : (pw max l1 l2).length = sz n := by rw [pw_len]; exact h1.len
  exact ⟨h1.le, hl, by intro q; rw [q] at hl; have := sz_pos n; exact this hl.symm, e.symm⟩
theorem joinL_isz {n : Nat} {l1 l2 : List Int} (z1 : IsZ n l1) (z2 : IsZ n l2) : IsZ n (joinL n l1 l2) := by
  unfold joinL
  split
  · exact z2
  · rename_i e1
    split
    · exact z1
    · rename_i e2
      rw [join_full (z1.2.resolve_left e1) (z2.2.resolve_left e2)]
      exact ⟨z1.1, .inr (join_is (z1.2.resolve_left e1) (z2.2.resolve_left e2))⟩
theorem meetL_isz {n : Nat} {l1 l2 : List Int} (z1 : IsZ n l1) (z2 : IsZ n l2) : IsZ n (meetL n l1 l2) := by
  unfold meetL
  split
  · exact ⟨z1.1, .inl rfl⟩
  · split
    · exact ⟨z1.1, .inl rfl⟩
    · by_cases h : closedL n (pw min l1 l2) = []
      · exact ⟨z1.1, .inl h⟩
      · exact ⟨z1.1, .inr (closed_full z1.1 h)⟩
theorem leq_join {n : Nat} {l1 l2 l3 : List Int} (z1 : IsZ n l1) (z2 : IsZ n l2) (z3 : IsZ n l3) : leqB (joinL n l1 l2) l3 = (leqB l1 l3 && leqB l2 l3) := by
  unfold joinL
  split
  · rename_i e; rw [e, leqB_nil, Bool.true_and]
  · rename_i e1
    split
    · rename_i e2; rw [e2, leqB_nil, Bool.and_true]
    · rename_i e2
      have h1 := z1.2.resolve_left e1
      have h2 := z2.2.resolve_left e2
      rw [join_full h1 h2]
      by_cases e3 : l3 = []
      · rw [e3, leqB_none (join_is h1 h2).ne, leqB_none e1, Bool.false_and]
      · have h3 := z3.2.resolve_left e3
        rw [Bool.eq_iff_iff, Bool.and_eq_true, leqB_iff (join_is h1 h2) h3, leqB_iff h1 h3, leqB_iff h2 h3]
        constructor
        · intro h
          constructor
          · intro i j hi hj
            have := h i j hi hj
            rw [pw_mat h1 hi hj] at this
            omega
          · intro i j hi hj
            have := h i j hi hj
            rw [pw_mat h1 hi hj] at this
            omega
        · rintro ⟨ha, hb⟩ i j hi hj
          rw [pw_mat h1 hi hj]
          have a := ha i j hi hj
          have b := hb i j hi hj
          omega
theorem leq_meet {n : Nat} {l1 l2 l3 : List Int} (z1 : IsZ n l1) (z2 : IsZ n l2) (z3 : IsZ n l3) : leqB l3 (meetL n l1 l2) = (leqB l3 l1 && leqB l3 l2) := by
  by_cases e3 : l3 = []
  · rw [e3, leqB_nil, leqB_nil, leqB_nil]; rfl
  have h3 := z3.2.resolve_left e3
  unfold meetL
  split
  · rename_i e; rw [e, leqB_none e3, Bool.false_and]
  · rename_i e1
    split
    · rename_i e2; rw [e2, leqB_none e3, Bool.and_false]
    · rename_i e2
      have h1 := z1.2.resolve_left e1
      have h2 := z2.2.resolve_left e2
      have hclip : ∀ D : Nat → Nat → Int, (∀ i j, i ≤ n → j ≤ n → D i j ≤ widestF i j ∧ -2199023255552 ≤ D i j) → (Leq n D (mat n (clipL n (pw min l1 l2))) ↔ Leq n D (mat n l1) ∧ Leq n D (mat n l2)) := by
        intro D hD
        constructor
        · intro h
          constructor
          · intro i j hi hj
            have a := h i j hi hj
            unfold clipL at a
            rw [mat_matL _ hi hj] at a
            have b := hD i j hi hj
            unfold clipF at a
            rw [pw_mat h1 hi hj] at a
            omega
          · intro i j hi hj
            have a := h i j hi hj
            unfold clipL at a
            rw [mat_matL _ hi hj] at a
            have b := hD i j hi hj
            unfold clipF at a
            rw [pw_mat h1 hi hj] at a
            omega
        · rintro ⟨ha, hb⟩ i j hi hj
          have a := ha i j hi hj
          have b := hb i j hi hj
          have c := hD i j hi hj
          unfold clipL
          rw [mat_matL _ hi hj]
          unfold clipF
          rw [pw_mat h1 hi hj]
          omega
      have hD3 : ∀ i j, i ≤ n → j ≤ n → mat n l3 i j ≤ widestF i j ∧ -2199023255552 ≤ mat n l3 i j := fun i j hi hj => by
        have a := h3.up hi hj
        have b := h3.low hi hj
        have c := widestF_le j i
        omega
      rw [Bool.eq_iff_iff, Bool.and_eq_true, leqB_iff h3 h1, leqB_iff h3 h2]
      constructor
      · intro h
        have hne : closedL n (pw min l1 l2) ≠ [] := by
          intro e; rw [e, leqB_none e3] at h; cases h
        have hM := closed_full z1.1 hne
        rw [leqB_iff h3 hM] at h
        obtain ⟨-, -, h5⟩ := closedL_is hne
        exact (hclip _ hD3).1 (fun i j hi hj => Int.le_trans (h i j hi hj) (h5 i j hi hj))
      · intro h
        obtain ⟨q1, q2⟩ := closedL_max h3.closed ((hclip _ hD3).2 h)
        have hM := closed_full z1.1 (closedL_ne q1)
        exact (leqB_iff h3 hM).2 q2
theorem leq_points {n : Nat} {l1 l3 : List Int} (h1 : Full n l1) (h3 : Full n l3) : leqB l1 l3 = (List.range (n + 1)).all fun k => hasB n l3 (pointL n l1 k) := by
  have ht : (((n : Nat) : Int)).toNat = n := by omega
  have hh : ∀ k, k ≤ n → (hasB n l3 (pointL n l1 k) = true ↔ Leq n (difF (pointL n l1 k)) (mat n l3)) := by
    intro k hk
    unfold hasB
    rw [h3.is, point_len, ht, point_near h1 hk, decide_eq_true rfl, Bool.true_and, Bool.true_and, Bool.not_false, Bool.true_and, cells_iff]
  rw [Bool.eq_iff_iff, leqB_iff h1 h3, List.all_eq_true]
  constructor
  · intro h k hk
    rw [List.mem_range] at hk
    rw [hh k (by omega)]
    intro i j hi hj
    unfold difF
    rw [point_at h1 hi (by omega), point_at h1 hj (by omega)]
    have a := h i j hi hj
    have b := h1.closed.tri i k j hi (by omega) hj
    omega
  · intro h i j hi hj
    have a := (hh j hj).1 (h j (List.mem_range.2 (by omega))) i j hi hj
    unfold difF at a
    rw [point_at h1 hi hj, point_at h1 hj hj, h1.closed.zero j hj] at a
    omega
end Go.Proofs.YtplgmmjppmpnoaaGreatDoor
/- Which valuations zones have that are made of zones. -/
namespace Go.Proofs.YtplgmmjppmpnoaaGreatDoor
open Go.RowKit
set_option linter.unusedVariables false
set_option linter.unusedSimpArgs false

/-- A valuation that a zone has. -/
def Has (n : Nat) (l v : List Int) : Prop := l ≠ [] ∧ v.any farB = false ∧ Leq n (difF v) (mat n l)
theorem has_iff {n : Nat} {l v : List Int} (hz : IsZ n l) (hv : v.length = n) : hasB n l v = true ↔ Has n l v := by
  have ht : (((n : Nat) : Int)).toNat = n := by omega
  unfold hasB Has
  rcases hz.2 with e | hF
  · rw [e]; unfold fullB; simp
  · rw [hF.is, hv, ht, decide_eq_true rfl, Bool.true_and, Bool.true_and, Bool.and_eq_true, cells_iff]
    constructor
    · rintro ⟨h1, h2⟩; exact ⟨hF.ne, by simpa using h1, h2⟩
    · rintro ⟨-, h1, h2⟩; exact ⟨by rw [h1]; rfl, h2⟩
theorem has_closed {n : Nat} {m v : List Int} : Has n (closedL n m) v ↔ v.any farB = false ∧ Leq n (difF v) (mat n m) := by
  constructor
  · rintro ⟨h1, h2, h3⟩
    refine ⟨h2, (dif_clip h2).1 fun i j hi hj => ?_⟩
    exact Int.le_trans (h3 i j hi hj) ((closedL_is h1).2.2 i j hi hj)
  · rintro ⟨h1, h2⟩
    obtain ⟨q1, q2⟩ := closedL_max (dif_closed n v) ((dif_clip h1).2 h2)
    exact ⟨closedL_ne q1, h1, q2⟩
theorem has_step {n : Nat} {X v : List Int} (f : List Int → List Int) : Has n (stepL n f X) v ↔ X ≠ [] ∧ v.any farB = false ∧ Leq n (difF v) (mat n (f X)) := by
  unfold stepL
  by_cases e : X = []
  · rw [if_pos e]
    constructor
    · intro h; exact absurd rfl h.1
    · intro h; exact absurd e h.1
  · rw [if_neg e, has_closed]
    constructor
    · intro h; exact ⟨e, h⟩
    · intro h; exact h.2
theorem lim_leqF {n : Nat} {D : Nat → Nat → Int} {l : List Int} (hl : l.length = sz n) {i j : Nat} (hi : i ≤ n) (hj : j ≤ n) (c : Int) : Leq n D (mat n (limL n l i j c)) ↔ Leq n D (mat n l) ∧ D i j ≤ c := by
  constructor
  · intro h
    refine ⟨fun a b ha hb => ?_, ?_⟩
    · have q := h a b ha hb
      rw [limL_at hl hi hj c ha hb] at q
      split at q
      · rename_i e; obtain ⟨rfl, rfl⟩ := e; omega
      · exact q
    · have q := h i j hi hj
      rw [limL_at hl hi hj c hi hj, if_pos ⟨rfl, rfl⟩] at q
      omega
  · rintro ⟨h1, h2⟩ a b ha hb
    have q := h1 a b ha hb
    rw [limL_at hl hi hj c ha hb]
    split
    · rename_i e; obtain ⟨rfl, rfl⟩ := e; omega
    · exact q
theorem has_limit {n : Nat} {X v : List Int} (hX : IsZ n X) {i j : Nat} (hi : i ≤ n) (hj : j ≤ n) (c : Int) : Has n (limitL n X i j c) v ↔ Has n X v ∧ difF v i j ≤ c := by
  unfold limitL
  rw [has_step]
  unfold Has
  constructor
  · rintro ⟨h1, h2, h3⟩
    have := (lim_leqF (hX.2.resolve_left h1).len hi hj c).1 h3
    exact ⟨⟨h1, h2, this.1⟩, this.2⟩
  · rintro ⟨⟨h1, h2, h3⟩, h4⟩
    exact ⟨h1, h2, (lim_leqF (hX.2.resolve_left h1).len hi hj c).2 ⟨h3, h4⟩⟩
theorem far_iff {v : List Int} : v.any farB = false ↔ ∀ a, 1 ≤ a → a ≤ v.length → -1099511627776 ≤ valF v a ∧ valF v a ≤ 1099511627776 := by
  constructor
  · intro h a _ _; exact val_in h a
  · intro h
    rw [List.any_eq_false]
    intro x hx
    obtain ⟨k, hk, rfl⟩ := List.getElem_of_mem hx
    have := h (k + 1) (by omega) (by omega)
    unfold valF at this
    rw [if_neg (by omega)] at this
    simp only [Nat.add_sub_cancel, List.getD, List.getElem?_eq_getElem hk, Option.getD_some] at this
    unfold farB
    simp
    omega
/-- A valuation with another value of a variable. -/
def withL (v : List Int) (i : Nat) (x : Int) : List Int := v.set (i - 1) x
theorem withL_len (v : List Int) (i : Nat) (x : Int) : (withL v i x).length = v.length := by simp [withL]
theorem withL_at {v : List Int} {i : Nat} (hi0 : 1 ≤ i) (hi : i ≤ v.length) (x : Int) (a : Nat) : valF (withL v i x) a = if a = i then x else valF v a := by
  unfold valF withL
  by_cases h0 : a = 0
  · subst h0; rw [if_pos rfl, if_neg (by omega), if_pos rfl]
  · rw [if_neg h0]
    by_cases e : a = i
    · subst e
      rw [if_pos rfl]
      have : a - 1 < v.length := by omega
      simp [List.getD, this]
    · rw [if_neg e, if_neg h0]
      have : i - 1 ≠ a - 1 := by omega
      simp [List.getD, List.getElem?_set, this]
theorem valF_zero (v : List Int) : valF v 0 = 0 := by unfold valF; rw [if_pos rfl]
theorem forL_at {n i : Nat} (hi : i ≤ n) {l : List Int} (hl : l.length = sz n) {a b : Nat} (ha : a ≤ n) (hb : b ≤ n) : mat n (forL n l i) a b = if a = i ∧ b ≠ i then 4398046511104 else if b = i ∧ a ≠ i then 4398046511104 else mat n l a b := by
  unfold forL
  rw [othK_at hi hl (n + 1) (Nat.le_refl _) a b ha hb]
  by_cases h1 : a = i ∧ b ≠ i
  · rw [if_pos ⟨h1.1, h1.2, by omega⟩, if_pos h1]
  · rw [if_neg (fun q => h1 ⟨q.1, q.2.1⟩), if_neg h1]
    by_cases h2 : b = i ∧ a ≠ i
    · rw [if_pos ⟨h2.1, h2.2, by omega⟩, if_pos h2]
    · rw [if_neg (fun q => h2 ⟨q.1, q.2.1⟩), if_neg h2]
theorem movL_at {n i : Nat} (hi : i ≤ n) {l : List Int} (hl : l.length = sz n) (c : Int) {a b : Nat} (ha : a ≤ n) (hb : b ≤ n) : mat n (movL n l i c) a b = if a = i ∧ b ≠ i then mat n l a b + c else if b = i ∧ a ≠ i then mat n l a b - c else mat n l a b := by
  unfold movL
  rw [othK_at hi hl (n + 1) (Nat.le_refl _) a b ha hb]
  by_cases h1 : a = i ∧ b ≠ i
  · rw [if_pos ⟨h1.1, h1.2, by omega⟩, if_pos h1]
  · rw [if_neg (fun q => h1 ⟨q.1, q.2.1⟩), if_neg h1]
    by_cases h2 : b = i ∧ a ≠ i
    · rw [if_pos ⟨h2.1, h2.2, by omega⟩, if_pos h2]
    · rw [if_neg (fun q => h2 ⟨q.1, q.2.1⟩), if_neg h2]
theorem has_forget {n : Nat} {X v : List Int} (hX : IsZ n X) {i : Nat} (hi : i ≤ n) : Has n (forgetL n X i) v ↔ X ≠ [] ∧ v.any farB = false ∧ ∀ a b, a ≤ n → b ≤ n → a ≠ i → b ≠ i → difF v a b ≤ mat n X a b := by
  unfold forgetL
  rw [has_step]
  refine and_congr_right fun h1 => and_congr_right fun h2 => ?_
  have hF := hX.2.resolve_left h1
  constructor
  · intro h a b ha hb hai hbi
    have q := h a b ha hb
    rw [forL_at hi hF.len ha hb, if_neg (fun e => hai e.1), if_neg (fun e => hbi e.1)] at q
    exact q
  · intro h a b ha hb
    rw [forL_at hi hF.len ha hb]
    have q := dif_widest h2 a b
    have q2 := widestF_le a b
    by_cases e1 : a = i
    · by_cases e2 : b = i
      · rw [if_neg (fun e => e.2 e2), if_neg (fun e => e.2 e1), e1, e2, hF.closed.zero i hi]
        unfold difF; omega
      · rw [if_pos ⟨e1, e2⟩]; omega
    · rw [if_neg (fun e => e1 e.1)]
      by_cases e2 : b = i
      · rw [if_pos ⟨e2, e1⟩]; omega
      · rw [if_neg (fun e => e2 e.1)]; exact h a b ha hb e1 e2
theorem has_meet {n : Nat} {A B v : List Int} (hA : IsZ n A) (hB : IsZ n B) : Has n (meetL n A B) v ↔ Has n A v ∧ Has n B v := by
  unfold meetL
  by_cases e1 : A = []
  · rw [if_pos e1]
    constructor
    · intro h; exact absurd rfl h.1
    · intro h; exact absurd e1 h.1.1
  · rw [if_neg e1]
    by_cases e2 : B = []
    · rw [if_pos e2]
      constructor
      · intro h; exact absurd rfl h.1
      · intro h; exact absurd e2 h.2.1
    · rw [if_neg e2, has_closed]
      have h1 := hA.2.resolve_left e1
      unfold Has
      constructor
      · rintro ⟨q1, q2⟩
        refine ⟨⟨e1, q1, fun i j hi hj => ?_⟩, e2, q1, fun i j hi hj => ?_⟩
        · have a := q2 i j hi hj
          rw [pw_mat h1 hi hj] at a; omega
        · have a := q2 i j hi hj
          rw [pw_mat h1 hi hj] at a; omega
      · rintro ⟨⟨-, q1, q2⟩, -, -, q3⟩
        refine ⟨q1, fun i j hi hj => ?_⟩
        have a := q2 i j hi hj
        have b := q3 i j hi hj
        rw [pw_mat h1 hi hj]; omega
theorem has_join {n : Nat} {A B v : List Int} (hA : IsZ n A) (hB : IsZ n B) (h : Has n A v ∨ Has n B v) : Has n (joinL n A B) v := by
  unfold joinL
  by_cases e1 : A = []
  · rw [if_pos e1]
    exact h.resolve_left fun q => q.1 e1
  · rw [if_neg e1]
    by_cases e2 : B = []
    · rw [if_pos e2]
      exact h.resolve_right fun q => q.1 e2
    · rw [if_neg e2, has_closed]
      have h1 := hA.2.resolve_left e1
      rcases h with ⟨-, q1, q2⟩ | ⟨-, q1, q2⟩
      · refine ⟨q1, fun i j hi hj => ?_⟩
        have a := q2 i j hi hj
        rw [pw_mat h1 hi hj]; omega
      · refine ⟨q1, fun i j hi hj => ?_⟩
        have a := q2 i j hi hj
        rw [pw_mat h1 hi hj]; omega
theorem has_widen {n : Nat} {A B v : List Int} (hA : IsZ n A) (hB : IsZ n B) (h : Has n A v ∨ Has n B v) : Has n (widenL n A B) v := by
  unfold widenL
  by_cases e1 : A = []
  · rw [if_pos e1]
    exact h.resolve_left fun q => q.1 e1
  · rw [if_neg e1]
    by_cases e2 : B = []
    · rw [if_pos e2]
      exact h.resolve_right fun q => q.1 e2
    · rw [if_neg e2, has_closed]
      have h1 := hA.2.resolve_left e1
      have hv : v.any farB = false := by rcases h with q | q <;> exact q.2.1
      refine ⟨hv, fun i j hi hj => ?_⟩
      have d := dif_widest hv i j
      have d2 := widestF_le i j
      rw [pw_mat h1 hi hj]
      unfold wid
      rcases h with ⟨-, q1, q2⟩ | ⟨-, q1, q2⟩
      · have a := q2 i j hi hj
        split <;> omega
      · have a := q2 i j hi hj
        split <;> omega
theorem has_tie {n : Nat} {X v : List Int} (hn : n ≤ 8) (hX : IsZ n X) {i j : Nat} (hi : i ≤ n) (hj : j ≤ n) (c : Int) : Has n (letTieL n X i j c) v ↔ Has n (forgetL n X i) v ∧ difF v i j = c := by
  have hX1 : IsZ n (forgetL n X i) := stepL_isz hn _ _
  have hY : IsZ n (limitL n (forgetL n X i) i j c) := stepL_isz hn _ _
  rw [tie_both hn X hi hj, has_limit hY hj hi, has_limit hX1 hi hj, and_assoc]
  refine and_congr_right fun _ => ?_
  unfold difF
  omega
theorem has_mov {n : Nat} {X v : List Int} (hX : IsZ n X) (hv : v.length = n) {i : Nat} (hi0 : 1 ≤ i) (hi : i ≤ n) (c : Int) : Has n (letMovL n X i c) v ↔ v.any farB = false ∧ Has n X (withL v i (valF v i - c)) := by
  unfold letMovL
  rw [has_step]
  have hi' : i ≤ v.length := by omega
  unfold Has
  constructor
  · rintro ⟨h1, h2, h3⟩
    have hF := hX.2.resolve_left h1
    have hL : Leq n (difF (withL v i (valF v i - c))) (mat n X) := by
      intro a b ha hb
      have q := h3 a b ha hb
      rw [movL_at hi hF.len c ha hb] at q
      unfold difF at q ⊢
      rw [withL_at hi0 hi', withL_at hi0 hi']
      by_cases e1 : a = i
      · rw [if_pos e1]
        subst e1
        by_cases e2 : b = a
        · subst e2
          rw [if_pos rfl, hF.closed.zero b hi]; omega
        · rw [if_neg e2]; rw [if_pos ⟨rfl, e2⟩] at q; omega
      · rw [if_neg e1]
        rw [if_neg (fun e => e1 e.1)] at q
        by_cases e2 : b = i
        · rw [if_pos e2]; rw [if_pos ⟨e2, e1⟩] at q; subst e2; omega
        · rw [if_neg e2]; rw [if_neg (fun e => e2 e.1)] at q; exact q
    refine ⟨h2, h1, ?_, hL⟩
    rw [far_iff] at h2 ⊢
    intro a ha0 ha
    rw [withL_len] at ha
    rw [withL_at hi0 hi']
    by_cases e : a = i
    · rw [if_pos e]
      have q1 := hL i 0 hi (by omega)
      have q2 := hL 0 i (by omega) hi
      have u1 := hF.up hi (show 0 ≤ n by omega)
      have u2 := hF.up (show 0 ≤ n by omega) hi
      unfold widestF at u1 u2
      rw [if_neg (by omega), if_pos (by omega)] at u1 u2
      unfold difF at q1 q2
      rw [withL_at hi0 hi', withL_at hi0 hi', if_pos rfl, if_neg (by omega), valF_zero] at q1 q2
      omega
    · rw [if_neg e]; exact h2 a ha0 ha
  · rintro ⟨h2, h1, -, hL⟩
    have hF := hX.2.resolve_left h1
    refine ⟨h1, h2, fun a b ha hb => ?_⟩
    have q := hL a b ha hb
    rw [movL_at hi hF.len c ha hb]
    unfold difF at q ⊢
    rw [withL_at hi0 hi', withL_at hi0 hi'] at q
    by_cases e1 : a = i
    · rw [if_pos e1] at q
      subst e1
      by_cases e2 : b = a
      · subst e2
        rw [if_neg (fun e => e.2 rfl), if_neg (fun e => e.2 rfl), hF.closed.zero b hi]; omega
      · rw [if_neg e2] at q; rw [if_pos ⟨rfl, e2⟩]; omega
    · rw [if_neg e1] at q
      rw [if_neg (fun e => e1 e.1)]
      by_cases e2 : b = i
      · rw [if_pos e2] at q; rw [if_pos ⟨e2, e1⟩]; subst e2; omega
      · rw [if_neg e2] at q; rw [if_neg (fun e => e2 e.1)]; exact q
end Go.Proofs.YtplgmmjppmpnoaaGreatDoor
/- Which valuations zones have that are made of zones: as the statements ask. -/
namespace Go.Proofs.YtplgmmjppmpnoaaGreatDoor
open Go.RowKit
set_option linter.unusedVariables false
set_option linter.unusedSimpArgs false

theorem forgetL_isz {n : Nat} (hn : n ≤ 8) (l : List Int) (i : Nat) : IsZ n (forgetL n l i) := stepL_isz hn _ _
theorem limitL_isz {n : Nat} (hn : n ≤ 8) (l : List Int) (i j : Nat) (c : Int) : IsZ n (limitL n l i j c) := stepL_isz hn _ _
theorem fact_meet {n : Nat} {A B v : List Int} (hA : IsZ n A) (hB : IsZ n B) (hv : v.length = n) : hasB n (meetL n A B) v = (hasB n A v && hasB n B v) := by
  rw [Bool.eq_iff_iff, Bool.and_eq_true, has_iff (meetL_isz hA hB) hv, has_iff hA hv, has_iff hB hv]
  exact has_meet hA hB
theorem widenL_isz {n : Nat} {A B : List Int} (z1 : IsZ n A) (z2 : IsZ n B) : IsZ n (widenL n A B) := by
  unfold widenL
  split
  · exact z2
  · split
    · exact z1
    · by_cases h : closedL n (pw wid A B) = []
      · exact ⟨z1.1, .inl h⟩
      · exact ⟨z1.1, .inr (closed_full z1.1 h)⟩
theorem fact_join {n : Nat} {A B v : List Int} (hA : IsZ n A) (hB : IsZ n B) (hv : v.length = n) (h : (hasB n A v || hasB n B v) = true) : hasB n (joinL n A B) v = true := by
  rw [Bool.or_eq_true, has_iff hA hv, has_iff hB hv] at h
  exact (has_iff (joinL_isz hA hB) hv).2 (has_join hA hB h)
theorem fact_widen {n : Nat} {A B v : List Int} (hA : IsZ n A) (hB : IsZ n B) (hv : v.length = n) (h : (hasB n A v || hasB n B v) = true) : hasB n (widenL n A B) v = true := by
  rw [Bool.or_eq_true, has_iff hA hv, has_iff hB hv] at h
  exact (has_iff (widenL_isz hA hB) hv).2 (has_widen hA hB h)
theorem fact_limit {n : Nat} {A v : List Int} (hA : IsZ n A) (hv : v.length = n) {i j : Nat} (hi : i ≤ n) (hj : j ≤ n) (c : Int) : hasB n (limitL n A i j c) v = (hasB n A v && decide (valF v i - valF v j ≤ c)) := by
  rw [Bool.eq_iff_iff, Bool.and_eq_true, has_iff (limitL_isz hA.1 _ _ _ _) hv, has_iff hA hv, decide_eq_true_iff]
  exact has_limit hA hi hj c
theorem with_forget {n : Nat} {A v : List Int} (hA : IsZ n A) (hv : v.length = n) {i : Nat} (hi0 : 1 ≤ i) (hi : i ≤ n) (h : Has n (forgetL n A i) v) (x : Int) (hx : -1099511627776 ≤ x ∧ x ≤ 1099511627776) : Has n (forgetL n A i) (withL v i x) := by
  rw [has_forget hA hi] at h ⊢
  have hi' : i ≤ v.length := by omega
  obtain ⟨h1, h2, h3⟩ := h
  refine ⟨h1, ?_, fun a b ha hb hai hbi => ?_⟩
  · rw [far_iff] at h2 ⊢
    intro a ha0 ha
    rw [withL_len] at ha
    rw [withL_at hi0 hi']
    split
    · exact hx
    · exact h2 a ha0 ha
  · have q := h3 a b ha hb hai hbi
    unfold difF at q ⊢
    rw [withL_at hi0 hi', withL_at hi0 hi', if_neg hai, if_neg hbi]
    exact q
theorem has_for {n : Nat} {A v : List Int} (hA : IsZ n A) {i : Nat} (hi : i ≤ n) (h : Has n A v) : Has n (forgetL n A i) v :=
  (has_forget hA hi).2 ⟨h.1, h.2.1, fun a b ha hb _ _ => h.2.2 a b ha hb⟩
theorem fact_forget {n : Nat} {A v : List Int} (hA : IsZ n A) (hv : v.length = n) {i : Nat} (hi0 : 1 ≤ i) (hi : i ≤ n) (h : hasB n A v = true) (x : Int) (hx : -1099511627776 ≤ x ∧ x ≤ 1099511627776) : hasB n (forgetL n A i) (withL v i x) = true := by
  rw [has_iff hA hv] at h
  rw [has_iff (forgetL_isz hA.1 _ _) (by rw [withL_len]; exact hv)]
  exact with_forget hA hv hi0 hi (has_for hA hi h) x hx
theorem fact_itv {n : Nat} {A v : List Int} (hA : IsZ n A) (hv : v.length = n) {i : Nat} (hi0 : 1 ≤ i) (hi : i ≤ n) (h : hasB n A v = true) : itvL n (forgetL n A i) i = (-1099511627776, 1099511627776) := by
  rw [has_iff hA hv] at h
  have hf := has_for hA hi h
  have hi' : i ≤ v.length := by omega
  have a := with_forget hA hv hi0 hi hf 1099511627776 (by omega)
  have b := with_forget hA hv hi0 hi hf (-1099511627776) (by omega)
  have hF := (stepL_isz hA.1 (fun l => forL n l i) A).2.resolve_left a.1
  have p := a.2.2 i 0 hi (by omega)
  have q := b.2.2 0 i (by omega) hi
  unfold difF at p q
  rw [withL_at hi0 hi', withL_at hi0 hi', if_pos rfl, if_neg (by omega), valF_zero] at p q
  have u1 := hF.up hi (show 0 ≤ n by omega)
  have u2 := hF.up (show 0 ≤ n by omega) hi
  unfold widestF at u1 u2
  rw [if_neg (by omega), if_pos (by omega)] at u1 u2
  unfold itvL
  rw [if_neg a.1]
  change mat n (forgetL n A i) i 0 ≤ _ at u1
  change mat n (forgetL n A i) 0 i ≤ _ at u2
  rw [show mat n (forgetL n A i) 0 i = 1099511627776 by omega, show mat n (forgetL n A i) i 0 = 1099511627776 by omega]
theorem fact_let {n : Nat} {A v : List Int} (hA : IsZ n A) (hv : v.length = n) {i j : Nat} (hi0 : 1 ≤ i) (hi : i ≤ n) (hj : j ≤ n) (h : hasB n A v = true) (c : Int) : hasB n (letL n A i j c) (withL v i (valF v j + c)) = !farB (valF v j + c) := by
  rw [has_iff hA hv] at h
  have hi' : i ≤ v.length := by omega
  have hb : (!farB (valF v j + c)) = true ↔ (-1099511627776 ≤ valF v j + c ∧ valF v j + c ≤ 1099511627776) := by unfold farB; simp; omega
  have hw : (withL v i (valF v j + c)).any farB = false ↔ (-1099511627776 ≤ valF v j + c ∧ valF v j + c ≤ 1099511627776) := by
    rw [far_iff]
    constructor
    · intro q
      have := q i hi0 (by rw [withL_len]; exact hi')
      rw [withL_at hi0 hi', if_pos rfl] at this
      exact this
    · intro q a ha0 ha
      rw [withL_len] at ha
      rw [withL_at hi0 hi']
      split
      · exact q
      · exact far_iff.1 h.2.1 a ha0 ha
  rw [Bool.eq_iff_iff, hb, has_iff (letL_isz hA.1 A i j c) (by rw [withL_len]; exact hv), ← hw]
  unfold letL
  by_cases e : i = j
  · subst e
    rw [if_pos rfl, has_mov hA (by rw [withL_len]; exact hv) hi0 hi]
    refine ⟨fun q => q.1, fun q => ⟨q, ?_⟩⟩
    rw [withL_at hi0 hi', if_pos rfl]
    have e2 : withL (withL v i (valF v i + c)) i (valF v i + c - c) = v := by
      unfold withL
      rw [List.set_set, show valF v i + c - c = valF v i by omega]
      apply List.ext_getElem (by simp)
      intro k h1 h2
      rw [List.getElem_set]
      split
      · rename_i e3
        unfold valF
        rw [if_neg (by omega), e3]
        simp [List.getD, h2]
      · rfl
    rw [e2]
    exact h
  · rw [if_neg e, has_tie hA.1 hA hi hj]
    constructor
    · intro q; exact q.1.2.1
    · intro q
      refine ⟨with_forget hA hv hi0 hi (has_for hA hi h) _ (hw.1 q), ?_⟩
      unfold difF
      rw [withL_at hi0 hi', withL_at hi0 hi', if_pos rfl, if_neg (fun q => e q.symm)]
      omega
theorem fact_mov {n : Nat} {Z v : List Int} (hZ : IsZ n Z) (hv : v.length = n) {i : Nat} (hi0 : 1 ≤ i) (hi : i ≤ n) (c : Int) : hasB n (letL n Z i i c) v = (!farB (valF v i - c) && (!farB (valF v i) && hasB n Z (withL v i (valF v i - c)))) := by
  have hi' : i ≤ v.length := by omega
  rw [Bool.eq_iff_iff, Bool.and_eq_true, Bool.and_eq_true, has_iff (letL_isz hZ.1 Z i i c) hv, has_iff hZ (by rw [withL_len]; exact hv)]
  unfold letL
  rw [if_pos rfl, has_mov hZ hv hi0 hi]
  have hb : ∀ x : Int, (!farB x) = true ↔ (-1099511627776 ≤ x ∧ x ≤ 1099511627776) := by intro x; unfold farB; simp; omega
  rw [hb, hb]
  constructor
  · rintro ⟨h1, h2⟩
    have a := far_iff.1 h1 i hi0 hi'
    have b := far_iff.1 h2.2.1 i hi0 (by rw [withL_len]; exact hi')
    rw [withL_at hi0 hi', if_pos rfl] at b
    exact ⟨b, a, h2⟩
  · rintro ⟨h1, h2, h3⟩
    refine ⟨far_iff.2 fun a ha0 ha => ?_, h3⟩
    by_cases e : a = i
    · rw [e]; exact h2
    · have := far_iff.1 h3.2.1 a ha0 (by rw [withL_len]; exact ha)
      rw [withL_at hi0 hi', if_neg e] at this
      exact this
theorem fact_tie {n : Nat} {Z v : List Int} (hZ : IsZ n Z) (hv : v.length = n) {i j : Nat} (hi : i ≤ n) (hj : j ≤ n) (hij : i ≠ j) (c : Int) (h : hasB n (letL n Z i j c) v = true) : valF v i = valF v j + c ∧ hasB n (forgetL n Z i) v = true := by
  rw [has_iff (letL_isz hZ.1 Z i j c) hv] at h
  unfold letL at h
  rw [if_neg hij, has_tie hZ.1 hZ hi hj] at h
  refine ⟨?_, (has_iff (stepL_isz hZ.1 _ _) hv).2 h.1⟩
  have := h.2
  unfold difF at this
  omega
/-- The least value that a variable may have beside the others'. -/
def leastK (n : Nat) (Z v : List Int) (i : Nat) : Nat → Int
  | 0 => -1099511627776
  | k + 1 => if k ≠ i ∧ leastK n Z v i k < valF v k - mat n Z k i then valF v k - mat n Z k i else leastK n Z v i k
theorem leastK_le {n : Nat} {Z v : List Int} {i : Nat} (K : Nat) : ∀ k, k < K → k ≠ i → valF v k - mat n Z k i ≤ leastK n Z v i K := by
  induction K with
  | zero => intro k h; omega
  | succ K ih =>
    intro k hk hki
    unfold leastK
    by_cases e : k = K
    · subst e
      split
      · omega
      · rename_i q
        by_cases q2 : leastK n Z v i k < valF v k - mat n Z k i
        · exact absurd ⟨hki, q2⟩ q
        · omega
    · have := ih k (by omega) hki
      split
      · rename_i q; omega
      · exact this
theorem leastK_is {n : Nat} {Z v : List Int} {i : Nat} (K : Nat) : leastK n Z v i K = -1099511627776 ∨ ∃ k, k < K ∧ k ≠ i ∧ leastK n Z v i K = valF v k - mat n Z k i := by
  induction K with
  | zero => left; rfl
  | succ K ih =>
    unfold leastK
    split
    · rename_i q; exact .inr ⟨K, by omega, q.1, rfl⟩
    · rcases ih with h | ⟨k, h1, h2, h3⟩
      · exact .inl h
      · exact .inr ⟨k, by omega, h2, h3⟩
theorem leastK_lo {n : Nat} {Z v : List Int} {i : Nat} (K : Nat) : -1099511627776 ≤ leastK n Z v i K := by
  induction K with
  | zero => unfold leastK; omega
  | succ K ih =>
    unfold leastK
    split
    · rename_i q; omega
    · exact ih
theorem fact_least {n : Nat} {Z v : List Int} (hZ : IsZ n Z) (hv : v.length = n) {i : Nat} (hi0 : 1 ≤ i) (hi : i ≤ n) (h : hasB n (forgetL n Z i) v = true) : hasB n Z (withL v i (leastK n Z v i (n + 1))) = true := by
  rw [has_iff (forgetL_isz hZ.1 _ _) hv, has_forget hZ hi] at h
  have hi' : i ≤ v.length := by omega
  obtain ⟨h1, h2, h3⟩ := h
  have hF := hZ.2.resolve_left h1
  rw [has_iff hZ (by rw [withL_len]; exact hv)]
  have lo := leastK_lo (n := n) (Z := Z) (v := v) (i := i) (n + 1)
  have u0 := hF.up (show 0 ≤ n by omega) hi
  unfold widestF at u0
  rw [if_neg (by omega), if_pos (by omega)] at u0
  have l0 := leastK_le (n := n) (Z := Z) (v := v) (i := i) (n + 1) 0 (by omega) (by omega)
  rw [valF_zero] at l0
  have hex : ∃ k, k ≤ n ∧ k ≠ i ∧ leastK n Z v i (n + 1) = valF v k - mat n Z k i := by
    rcases leastK_is (n := n) (Z := Z) (v := v) (i := i) (n + 1) with e | ⟨k, a, b, c⟩
    · exact ⟨0, by omega, by omega, by rw [e, valF_zero]; omega⟩
    · exact ⟨k, by omega, b, c⟩
  obtain ⟨m, hm, hmi, hme⟩ := hex
  have hup : ∀ b, b ≤ n → b ≠ i → leastK n Z v i (n + 1) - valF v b ≤ mat n Z i b := by
    intro b hb hbi
    have t := hF.closed.tri m b i hm hb hi
    have q := h3 m b hm hb hmi hbi
    unfold difF at q
    have z1 := hF.closed.tri m b i hm hb hi
    omega
  have hL : Leq n (difF (withL v i (leastK n Z v i (n + 1)))) (mat n Z) := by
    intro a b ha hb
    unfold difF
    rw [withL_at hi0 hi', withL_at hi0 hi']
    by_cases e1 : a = i
    · rw [if_pos e1]
      by_cases e2 : b = i
      · rw [if_pos e2, e1, e2, hF.closed.zero i hi]; omega
      · rw [if_neg e2, e1]; exact hup b hb e2
    · rw [if_neg e1]
      by_cases e2 : b = i
      · rw [if_pos e2, e2]
        have := leastK_le (n := n) (Z := Z) (v := v) (i := i) (n + 1) a (by omega) e1
        omega
      · rw [if_neg e2]; exact h3 a b ha hb e1 e2
  refine ⟨h1, ?_, hL⟩
  rw [far_iff] at h2 ⊢
  intro a ha0 ha
  rw [withL_len] at ha
  rw [withL_at hi0 hi']
  split
  · have q := hup 0 (by omega) (by omega)
    rw [valF_zero] at q
    have u := hF.up hi (show 0 ≤ n by omega)
    unfold widestF at u
    rw [if_neg (by omega), if_pos (by omega)] at u
    omega
  · exact h2 a ha0 ha
end Go.Proofs.YtplgmmjppmpnoaaGreatDoor
/- What is behind statements, and at fault. (Written by gen-post.py.) -/
namespace Go.Proofs.YtplgmmjppmpnoaaGreatDoor
open Go.RowKit
set_option linter.unusedVariables false
set_option linter.unusedSimpArgs false

/-- A zone, a statement, what is handed back, in memory. -/
structure P3 (w W : World) (zn zm : Value) (st : Array Value) (rn rm : Value) : Prop where
  bl : Below w.heap.size w W
  z : ZH W w.heap.size zn zm
  s : Holds W (w.heap.size + 1) 26 st
  r : ZH W (w.heap.size + 2) rn rm
theorem P3.on {w W W' : World} {zn zm rn rm : Value} {st : Array Value} (h : P3 w W zn zm st rn rm) (hb : Below W.heap.size W W') : P3 w W' zn zm st rn rm :=
  ⟨h.bl.trans (hb.mono h.bl.size), h.z.below hb h.z.lt, h.s.below hb h.s.lt, h.r.below hb h.r.lt⟩
theorem p3_new (w : World) (zn zm : Value) (st : Array Value) : P3 w (((w.alloc (.cells #[zn, zm] 24)).alloc (.cells st 26)).alloc (.cells #[.int .i64 0, .slice none 0 0] 24)) zn zm st (.int .i64 0) (.slice none 0 0) := by
  refine ⟨((box_below _ _ _).alloc (by simp) _).alloc (by simp; omega) _, ((Holds.new w _ _).alloc _).alloc _, ?_, ?_⟩
  · have := (Holds.new (w.alloc (.cells #[zn, zm] 24)) 26 st).alloc (.cells #[.int .i64 0, .slice none 0 0] 24)
    simpa using this
  · have := Holds.new ((w.alloc (.cells #[zn, zm] 24)).alloc (.cells st 26)) 24 #[.int .i64 0, .slice none 0 0]
    simpa using this
/-- The zone's block is written anew. -/
theorem P3.setz {w W : World} {zn zm rn rm : Value} {st : Array Value} (h : P3 w W zn zm st rn rm) (u v : Value) : P3 w ((W.setCell ⟨w.heap.size, 0, none⟩ u).setCell ⟨w.heap.size, 1, none⟩ v) u v st rn rm :=
  ⟨(h.bl.setCell (p := ⟨w.heap.size, 0, none⟩) (Nat.le_refl _) _).setCell (p := ⟨w.heap.size, 1, none⟩) (Nat.le_refl _) _, zh_set h.z _ _, (h.s.far (p := ⟨w.heap.size, 0, none⟩) (by simp) _).far (p := ⟨w.heap.size, 1, none⟩) (by simp) _, (h.r.far (p := ⟨w.heap.size, 0, none⟩) (by simp) _).far (p := ⟨w.heap.size, 1, none⟩) (by simp) _⟩
set_option maxRecDepth 100000 in
set_option maxHeartbeats 400000 in
theorem let_any (n : Nat) (l : List Int) (hz : IsZ n l) (k x y c d : Int) (X Y : Nat) (ex : x = X) (ey : y = Y) (hx0 : 1 ≤ X) (hx : X ≤ n) (hy : Y ≤ n) (a : Option Addr) (m ca : Nat) (w : World) (h : SL w a m ca l) : Calls Tryz.prog 52 #[.agg #[.int .i64 n, .slice a m ca], .agg #[.int .i64 k, .int .i64 x, .int .i64 y, .int .i64 c, .int .i64 d]] w (ZoneE n (letL n l X Y c) 0 w) := by
  obtain ⟨W1, hW1⟩ : ∃ W1, W1 = ((w.alloc (.cells #[.int .i64 n, .slice a m ca] 24)).alloc (.cells #[.int .i64 k, .int .i64 x, .int .i64 y, .int .i64 c, .int .i64 d] 26)).alloc (.cells #[.int .i64 0, .slice none 0 0] 24) := ⟨_, rfl⟩
  have X1 : P3 w W1 (.int .i64 n) (.slice a m ca) #[.int .i64 k, .int .i64 x, .int .i64 y, .int .i64 c, .int .i64 d] (.int .i64 0) (.slice none 0 0) := by rw [hW1]; exact p3_new _ _ _ _
  have hW1' := Lib.hid hW1
  have XP := Lib.hid X1
  have k0 := X1.z.cell 0
  have k1 := X1.z.cell 1
  have s1 := X1.s.cell 1
  have s2 := X1.s.cell 2
  have s3 := X1.s.cell 3
  have s4 := X1.s.cell 4
  subst ex ey
  have q := Lib.hid ((fun W hs => zlet_ok n l hz X Y hx0 hx hy c a m ca W hs) W1 (h.below X1.bl))
  clear hW1 X1 h hz
  generalize (letL n l X Y c) = R at *
  go_enter Tryz.func52, Tryz.ntmps52
  go_wp2_with fail
  rw [← hW1'.out]
  refine q.out.mono ?_
  rintro e w7 ⟨a7, c7, rfl, hc7, s7, b7, nw7⟩
  have Zd := XP.out.r.below b7 XP.out.r.lt
  have y0 := Zd.cell 0
  have y1 := Zd.cell 1
  have f0 := Zd.free 0
  have f1 := Zd.free 1
  have hfin := Lib.hid (zone_put (n := n) (err := 0) XP.out.bl (by omega) XP.out.r hc7 s7 b7 nw7)
  clear Zd q k0 k1 s1 s2 s3 s4 hW1'
  go_wp2
  exact zone_ret2 hfin.out.1 hfin.out.2.1 _ _ 4 5 rfl rfl rfl rfl
set_option maxRecDepth 100000 in
set_option maxHeartbeats 400000 in
theorem plimit_any (n : Nat) (l : List Int) (hz : IsZ n l) (k x y c d : Int) (X Y : Nat) (ex : x = X) (ey : y = Y) (hx : X ≤ n) (hy : Y ≤ n) (a : Option Addr) (m ca : Nat) (w : World) (h : SL w a m ca l) : Calls Tryz.prog 54 #[.agg #[.int .i64 n, .slice a m ca], .agg #[.int .i64 k, .int .i64 x, .int .i64 y, .int .i64 c, .int .i64 d]] w (ZoneE n (limitL n l X Y c) 0 w) := by
  obtain ⟨W1, hW1⟩ : ∃ W1, W1 = ((w.alloc (.cells #[.int .i64 n, .slice a m ca] 24)).alloc (.cells #[.int .i64 k, .int .i64 x, .int .i64 y, .int .i64 c, .int .i64 d] 26)).alloc (.cells #[.int .i64 0, .slice none 0 0] 24) := ⟨_, rfl⟩
  have X1 : P3 w W1 (.int .i64 n) (.slice a m ca) #[.int .i64 k, .int .i64 x, .int .i64 y, .int .i64 c, .int .i64 d] (.int .i64 0) (.slice none 0 0) := by rw [hW1]; exact p3_new _ _ _ _
  have hW1' := Lib.hid hW1
  have XP := Lib.hid X1
  have k0 := X1.z.cell 0
  have k1 := X1.z.cell 1
  have s1 := X1.s.cell 1
  have s2 := X1.s.cell 2
  have s3 := X1.s.cell 3
  have s4 := X1.s.cell 4
  subst ex ey
  have q := Lib.hid ((fun W hs => zlimit_ok n l hz X Y hx hy c a m ca W hs) W1 (h.below X1.bl))
  clear hW1 X1 h hz
  generalize (limitL n l X Y c) = R at *
  go_enter Tryz.func54, Tryz.ntmps54
  go_wp2_with fail
  rw [← hW1'.out]
  refine q.out.mono ?_
  rintro e w7 ⟨a7, c7, rfl, hc7, s7, b7, nw7⟩
  have Zd := XP.out.r.below b7 XP.out.r.lt
  have y0 := Zd.cell 0
  have y1 := Zd.cell 1
  have f0 := Zd.free 0
  have f1 := Zd.free 1
  have hfin := Lib.hid (zone_put (n := n) (err := 0) XP.out.bl (by omega) XP.out.r hc7 s7 b7 nw7)
  clear Zd q k0 k1 s1 s2 s3 s4 hW1'
  go_wp2
  exact zone_ret2 hfin.out.1 hfin.out.2.1 _ _ 4 5 rfl rfl rfl rfl
set_option maxRecDepth 100000 in
set_option maxHeartbeats 400000 in
theorem beyond_any (n : Nat) (l : List Int) (hz : IsZ n l) (k x y c d : Int) (X Y : Nat) (ex : x = X) (ey : y = Y) (hx : X ≤ n) (hy : Y ≤ n) (hc : -1099511627776 ≤ c ∧ c ≤ 1099511627776) (a : Option Addr) (m ca : Nat) (w : World) (h : SL w a m ca l) : Calls Tryz.prog 56 #[.agg #[.int .i64 n, .slice a m ca], .agg #[.int .i64 k, .int .i64 x, .int .i64 y, .int .i64 c, .int .i64 d]] w (ZoneE n (limitL n l Y X (-c - 1)) 0 w) := by
  obtain ⟨W1, hW1⟩ : ∃ W1, W1 = ((w.alloc (.cells #[.int .i64 n, .slice a m ca] 24)).alloc (.cells #[.int .i64 k, .int .i64 x, .int .i64 y, .int .i64 c, .int .i64 d] 26)).alloc (.cells #[.int .i64 0, .slice none 0 0] 24) := ⟨_, rfl⟩
  have X1 : P3 w W1 (.int .i64 n) (.slice a m ca) #[.int .i64 k, .int .i64 x, .int .i64 y, .int .i64 c, .int .i64 d] (.int .i64 0) (.slice none 0 0) := by rw [hW1]; exact p3_new _ _ _ _
  have hW1' := Lib.hid hW1
  have XP := Lib.hid X1
  have k0 := X1.z.cell 0
  have k1 := X1.z.cell 1
  have s1 := X1.s.cell 1
  have s2 := X1.s.cell 2
  have s3 := X1.s.cell 3
  have s4 := X1.s.cell 4
  subst ex ey
  have wr1 : IntKind.i64.wrap (-c) = -c := by simp [IntKind.wrap, IntKind.bits, IntKind.signed]; omega
  have wr2 : IntKind.i64.wrap (-c - 1) = -c - 1 := by simp [IntKind.wrap, IntKind.bits, IntKind.signed]; omega
  have q := Lib.hid ((fun W hs => zlimit_ok n l hz Y X hy hx (-c - 1) a m ca W hs) W1 (h.below X1.bl))
  clear hW1 X1 h hz
  generalize (limitL n l Y X (-c - 1)) = R at *
  go_enter Tryz.func56, Tryz.ntmps56
  go_wp2_with fail
  rw [← hW1'.out]
  refine q.out.mono ?_
  rintro e w7 ⟨a7, c7, rfl, hc7, s7, b7, nw7⟩
  have Zd := XP.out.r.below b7 XP.out.r.lt
  have y0 := Zd.cell 0
  have y1 := Zd.cell 1
  have f0 := Zd.free 0
  have f1 := Zd.free 1
  have hfin := Lib.hid (zone_put (n := n) (err := 0) XP.out.bl (by omega) XP.out.r hc7 s7 b7 nw7)
  clear Zd q k0 k1 s1 s2 s3 s4 hW1'
  go_wp2
  exact zone_ret2 hfin.out.1 hfin.out.2.1 _ _ 4 5 rfl rfl rfl rfl
theorem never_any (n k x y c d : Int) (a : Option Addr) (m ca : Nat) (w : World) : Calls Tryz.prog 55 #[.agg #[.int .i64 n, .slice a m ca], .agg #[.int .i64 k, .int .i64 x, .int .i64 y, .int .i64 c, .int .i64 d]] w (ZoneE n [] 0 w) := by
  obtain ⟨W1, hW1⟩ : ∃ W1, W1 = ((w.alloc (.cells #[.int .i64 n, .slice a m ca] 24)).alloc (.cells #[.int .i64 k, .int .i64 x, .int .i64 y, .int .i64 c, .int .i64 d] 26)).alloc (.cells #[.int .i64 0, .slice none 0 0] 24) := ⟨_, rfl⟩
  have X1 : P3 w W1 (.int .i64 n) (.slice a m ca) #[.int .i64 k, .int .i64 x, .int .i64 y, .int .i64 c, .int .i64 d] (.int .i64 0) (.slice none 0 0) := by rw [hW1]; exact p3_new _ _ _ _
  have hW1' := Lib.hid hW1
  have XP := Lib.hid X1
  have k0 := X1.z.cell 0
  have k1 := X1.z.cell 1
  have s1 := X1.s.cell 1
  have s2 := X1.s.cell 2
  have s3 := X1.s.cell 3
  have s4 := X1.s.cell 4
  have y0 := X1.r.cell 0
  have y1 := X1.r.cell 1
  have f0 := X1.r.free 0
  have f1 := X1.r.free 1
  have hfin := Lib.hid (zone_none X1.bl (by omega : w.heap.size ≤ w.heap.size + 2) X1.r n 0)
  clear X1 hW1
  go_enter Tryz.func55, Tryz.ntmps55
  go_wp2_with (rw [← hW1'.out])
  exact zone_ret2 hfin.out.1 hfin.out.2.1 _ _ 4 5 rfl rfl rfl rfl
set_option maxRecDepth 100000 in
set_option maxHeartbeats 400000 in
theorem pskip_any (n : Nat) (l : List Int) (hz : IsZ n l) (k x y c d : Int) (a : Option Addr) (m ca : Nat) (w : World) (h : SL w a m ca l) : Calls Tryz.prog 51 #[.agg #[.int .i64 n, .slice a m ca], .agg #[.int .i64 k, .int .i64 x, .int .i64 y, .int .i64 c, .int .i64 d]] w (ZoneE n l 0 w) := by
  obtain ⟨W1, hW1⟩ : ∃ W1, W1 = ((w.alloc (.cells #[.int .i64 n, .slice a m ca] 24)).alloc (.cells #[.int .i64 k, .int .i64 x, .int .i64 y, .int .i64 c, .int .i64 d] 26)).alloc (.cells #[.int .i64 0, .slice none 0 0] 24) := ⟨_, rfl⟩
  have X1 : P3 w W1 (.int .i64 n) (.slice a m ca) #[.int .i64 k, .int .i64 x, .int .i64 y, .int .i64 c, .int .i64 d] (.int .i64 0) (.slice none 0 0) := by rw [hW1]; exact p3_new _ _ _ _
  have hW1' := Lib.hid hW1
  have XP := Lib.hid X1
  have k0 := X1.z.cell 0
  have k1 := X1.z.cell 1
  have s1 := X1.s.cell 1
  have s2 := X1.s.cell 2
  have s3 := X1.s.cell 3
  have s4 := X1.s.cell 4
  have hsm := hz.small
  have hcl := Lib.hid (fun W (hW : Below w.heap.size w W) => iclone_any a l m ca h.len (by omega) W ((h.below hW).sees))
  have f0 : ∀ W, (Below w.heap.size w W ∧ ZH W w.heap.size (.int .i64 n) (.slice a m ca)) → W.cell? ⟨w.heap.size, 0, none⟩ = some (.int .i64 n) := fun W hW => hW.2.cell 0
  have f1 : ∀ W, (Below w.heap.size w W ∧ ZH W w.heap.size (.int .i64 n) (.slice a m ca)) → W.cell? ⟨w.heap.size, 1, none⟩ = some (.slice a m ca) := fun W hW => hW.2.cell 1
  clear hW1 X1 h hz k0 k1 s1 s2 s3 s4 hsm
  go_enter Tryz.func51, Tryz.ntmps51
  go_wp2
  rw [← hW1'.out]
  refine wp_drawn_on (fun W => Below w.heap.size w W ∧ ZH W w.heap.size (.int .i64 n) (.slice a m ca)) (by kernel_rfl) (⟨XP.out.bl.drew, XP.out.z.drew⟩) (fun hHeld => ?_)
  refine wpAnyH_take (i := 0) (oi := { dst := some 6, op := Go.Op.fieldAddr 24 (Go.Operand.tmp 2) 0, type := 0, pos := "post.go:39", after := #[], guard := none }) (v := ?v1) rfl (by kernel_rfl) (by kernel_rfl) (by kernel_rfl) (fun _ _ _ h => h) (Or.inl ⟨by kernel_rfl, ?h1⟩) (by assumption) ?r1
  case h1 => (intro w hSw; (try dsimp only at hSw); go_simp; try with_reducible rfl)
  try simp only [Act.put, List.setIfInBounds_toArray, List.set_cons_zero, List.set_cons_succ]
  refine wpAnyH_take (i := 1) (oi := { dst := some 7, op := Go.Op.load 3 (Go.Operand.tmp 6), type := 3, pos := "post.go:39", after := #[{ on := 0, ground := Go.Ground.data }], guard := none }) (v := ?v2) rfl (by kernel_rfl) (by kernel_rfl) (by kernel_rfl) (fun _ _ _ h => h) (Or.inl ⟨by kernel_rfl, ?h2⟩) (by assumption) ?r2
  case h2 => (intro w hSw; (try dsimp only at hSw); go_simp; try with_reducible rfl)
  try simp only [Act.put, List.setIfInBounds_toArray, List.set_cons_zero, List.set_cons_succ]
  refine wpAnyH_take (i := 2) (oi := { dst := some 8, op := Go.Op.fieldAddr 24 (Go.Operand.tmp 2) 1, type := 0, pos := "post.go:39", after := #[], guard := none }) (v := ?v3) rfl (by kernel_rfl) (by kernel_rfl) (by kernel_rfl) (fun _ _ _ h => h) (Or.inl ⟨by kernel_rfl, ?h3⟩) (by assumption) ?r3
  case h3 => (intro w hSw; (try dsimp only at hSw); go_simp; try with_reducible rfl)
  try simp only [Act.put, List.setIfInBounds_toArray, List.set_cons_zero, List.set_cons_succ]
  refine wpAnyH_take (i := 3) (oi := { dst := some 9, op := Go.Op.load 22 (Go.Operand.tmp 8), type := 22, pos := "post.go:39", after := #[{ on := 2, ground := Go.Ground.data }], guard := none }) (v := ?v4) rfl (by kernel_rfl) (by kernel_rfl) (by kernel_rfl) (fun _ _ _ h => h) (Or.inl ⟨by kernel_rfl, ?h4⟩) (by assumption) ?r4
  case h4 => (intro w hSw; (try dsimp only at hSw); go_simp; try with_reducible rfl)
  try simp only [Act.put, List.setIfInBounds_toArray, List.set_cons_zero, List.set_cons_succ]
  refine wpAnyH_ready (rs := [4]) (by kernel_rfl) (by simp) ?_
  refine AllReadyH.cons (o := { dst := some 10, op := Go.Op.call { callee := Go.Callee.value (Go.Operand.func 66), args := #[Go.Operand.tmp 9], argTypes := #[22] }, type := 22, pos := "post.go:39", after := #[{ on := 3, ground := Go.Ground.data }], guard := none }) rfl (fun K hK => ?_) AllReadyH.nil
  go_simp
  refine (hcl.out _ hHeld.1).mono ?_
  intro e u4 hm
  have b4 : Below W1.drew.heap.size W1.drew u4 := by obtain ⟨_, _, _, hb⟩ := hm; exact hb
  obtain ⟨a4, c4, rfl, hz4, hfin4⟩ := zone_end hHeld.1 (by omega : w.heap.size ≤ w.heap.size + 2) XP.out.r.drew hm
  have hx4 := And.intro (hHeld.1.trans (b4.mono hHeld.1.size)) (hHeld.2.below b4 hHeld.2.lt)
  have y0 := hz4.cell 0
  have y1 := hz4.cell 1
  have g0 := hz4.free 0
  have g1 := hz4.free 1
  go_simp
  refine hK.out _ _ (hx4) (fun hHeld => ?_)
  clear hK K
  try simp only [Act.put, List.setIfInBounds_toArray, List.set_cons_zero, List.set_cons_succ]
  refine wpAnyH_take (i := 5) (oi := { dst := some 11, op := Go.Op.build 24 #[(0, Go.Operand.tmp 7), (1, Go.Operand.tmp 10)], type := 24, pos := "post.go:39", after := #[{ on := 1, ground := Go.Ground.data }, { on := 4, ground := Go.Ground.data }], guard := none }) (v := ?v5) rfl (by kernel_rfl) (by kernel_rfl) (by kernel_rfl) (fun _ _ _ h => h) (Or.inl ⟨by kernel_rfl, ?h5⟩) (by assumption) ?r5
  case h5 => (intro w hSw; (try dsimp only at hSw); go_simp; try with_reducible rfl)
  try simp only [Act.put, List.setIfInBounds_toArray, List.set_cons_zero, List.set_cons_succ]
  refine wpAnyH_ready (rs := [6]) (by kernel_rfl) (by simp) ?_
  refine AllReadyH.cons (o := { dst := none, op := Go.Op.store 24 (Go.Operand.tmp 4) (Go.Operand.tmp 11), type := 0, pos := "post.go:39", after := #[{ on := 5, ground := Go.Ground.data }, { on := 4, ground := Go.Ground.chain }, { on := 0, ground := Go.Ground.phase }, { on := 1, ground := Go.Ground.phase }, { on := 2, ground := Go.Ground.phase }, { on := 3, ground := Go.Ground.phase }, { on := 4, ground := Go.Ground.phase }, { on := 5, ground := Go.Ground.phase }], guard := none }) rfl (fun K hK => ?_) AllReadyH.nil
  go_simp
  have hx6 := And.intro ((hHeld.1.setCell (p := ⟨w.heap.size + 2, 0, none⟩) (by show w.heap.size ≤ w.heap.size + 2; omega) (.int .i64 n)).setCell (p := ⟨w.heap.size + 2, 1, none⟩) (by show w.heap.size ≤ w.heap.size + 2; omega) (.slice a4 l.length c4)) ((hHeld.2.far (p := ⟨w.heap.size + 2, 0, none⟩) (by simp) (.int .i64 n)).far (p := ⟨w.heap.size + 2, 1, none⟩) (by simp) (.slice a4 l.length c4))
  refine hK.out _ _ (hx6) (fun hHeld => ?_)
  clear hK K
  try simp only [Act.put, List.setIfInBounds_toArray, List.set_cons_zero, List.set_cons_succ]
  refine wpAnyH_take (i := 7) (oi := { dst := some 5, op := Go.Op.assign (Go.Operand.const (Go.Value.int Go.IntKind.i64 0)), type := 28, pos := "post.go:39", after := #[{ on := 6, ground := Go.Ground.chain }, { on := 0, ground := Go.Ground.phase }, { on := 1, ground := Go.Ground.phase }, { on := 2, ground := Go.Ground.phase }, { on := 3, ground := Go.Ground.phase }, { on := 4, ground := Go.Ground.phase }, { on := 5, ground := Go.Ground.phase }, { on := 6, ground := Go.Ground.phase }], guard := none }) (v := ?v6) rfl (by kernel_rfl) (by kernel_rfl) (by kernel_rfl) (fun _ _ _ h => h) (Or.inl ⟨by kernel_rfl, ?h6⟩) (by assumption) ?r6
  case h6 => (intro w hSw; (try dsimp only at hSw); go_simp; try with_reducible rfl)
  try simp only [Act.put, List.setIfInBounds_toArray, List.set_cons_zero, List.set_cons_succ]
  refine wpAnyH_done (by kernel_rfl) ?_ _
  have hfin := Lib.hid (hfin4 n 0)
  clear hfin4 hz4 hm hx4 hx6 hHeld y0 y1 g0 g1 f0 f1
  go_wp2
  exact zone_ret2 hfin.out.1 hfin.out.2.1 _ _ 4 5 rfl rfl rfl rfl
set_option maxRecDepth 100000 in
set_option maxHeartbeats 1000000 in
theorem ppick_any (n : Nat) (l : List Int) (hz : IsZ n l) (k x y c d : Int) (X : Nat) (ex : x = X) (hx0 : 1 ≤ X) (hx : X ≤ n) (hc : -1099511627776 ≤ c ∧ c ≤ 1099511627776) (a : Option Addr) (m ca : Nat) (w : World) (h : SL w a m ca l) : Calls Tryz.prog 53 #[.agg #[.int .i64 n, .slice a m ca], .agg #[.int .i64 k, .int .i64 x, .int .i64 y, .int .i64 c, .int .i64 d]] w (ZoneE n (limitL n (limitL n (forgetL n l X) X 0 d) 0 X (-c)) 0 w) := by
  obtain ⟨W1, hW1⟩ : ∃ W1, W1 = ((w.alloc (.cells #[.int .i64 n, .slice a m ca] 24)).alloc (.cells #[.int .i64 k, .int .i64 x, .int .i64 y, .int .i64 c, .int .i64 d] 26)).alloc (.cells #[.int .i64 0, .slice none 0 0] 24) := ⟨_, rfl⟩
  have X1 : P3 w W1 (.int .i64 n) (.slice a m ca) #[.int .i64 k, .int .i64 x, .int .i64 y, .int .i64 c, .int .i64 d] (.int .i64 0) (.slice none 0 0) := by rw [hW1]; exact p3_new _ _ _ _
  have hW1' := Lib.hid hW1
  have XP := Lib.hid X1
  have k0 := X1.z.cell 0
  have k1 := X1.z.cell 1
  have s1 := X1.s.cell 1
  have s2 := X1.s.cell 2
  have s3 := X1.s.cell 3
  have s4 := X1.s.cell 4
  subst ex
  have hn := hz.1
  have wr1 : IntKind.i64.wrap (-c) = -c := by simp [IntKind.wrap, IntKind.bits, IntKind.signed]; omega
  have hSL := Lib.hid (h.below X1.bl)
  have hF := Lib.hid (fun W aa mm cc hs => zforget_ok n l hz X hx0 hx aa mm cc W hs)
  have hL1 := Lib.hid (fun W aa mm cc hs => zlimit_ok n (forgetL n l X) (forgetL_isz hn l X) X 0 hx (Nat.zero_le _) d aa mm cc W hs)
  have hL2 := Lib.hid (fun W aa mm cc hs => zlimit_ok n (limitL n (forgetL n l X) X 0 d) (limitL_isz hn _ _ _ _) 0 X (Nat.zero_le _) hx (-c) aa mm cc W hs)
  rw [show ((0 : Nat) : Int) = 0 from rfl] at hL1 hL2
  clear hW1 X1 h hz hc
  go_enter Tryz.func53, Tryz.ntmps53
  have q1 := Lib.hid (hF.out W1 a m ca hSL.out)
  go_wp2_with fail
  rw [← hW1'.out]
  refine q1.out.mono ?_
  rintro e u1 ⟨a1, c1, rfl, hc1, t1, b1, nw1⟩
  have hlen1 : (forgetL n l X).length ≤ 81 := stepL_small n hn _ _
  have P := XP.out.on b1
  have y01 := P.z.cell 0
  have y11 := P.z.cell 1
  have g01 := P.z.free 0
  have g11 := P.z.free 1
  have p11 := P.s.cell 1
  have p31 := P.s.cell 3
  have p41 := P.s.cell 4
  have glt : w.heap.size < W1.heap.size := XP.out.z.lt
  obtain ⟨V1, hV1⟩ : ∃ V, V = (u1.setCell ⟨w.heap.size, 0, none⟩ (.int .i64 n)).setCell ⟨w.heap.size, 1, none⟩ (.slice a1 (forgetL n l X).length c1) := ⟨_, rfl⟩
  have X1 := Lib.hid (show P3 w V1 _ _ _ _ _ by rw [hV1]; exact P.setz _ _)
  have S1 := Lib.hid (show SL V1 a1 (forgetL n l X).length c1 (forgetL n l X) by rw [hV1]; exact sl_set ⟨rfl, hc1, by omega, t1⟩ _ (.inr (fun p hp => by have := nw1 p hp; omega)) _ _)
  have hV1' := Lib.hid hV1
  clear b1 nw1 t1 hc1 hlen1 P glt hV1 q1 k0 k1 s1 s2 s3 s4 hW1'

  have q2 := Lib.hid (hL1.out V1 a1 _ c1 S1.out)
  go_wp2_with fail
  rw [← hV1'.out]
  refine q2.out.mono ?_
  rintro e u2 ⟨a2, c2, rfl, hc2, t2, b2, nw2⟩
  have hlen2 : (limitL n (forgetL n l X) X 0 d).length ≤ 81 := stepL_small n hn _ _
  have P := X1.out.on b2
  have y02 := P.z.cell 0
  have y12 := P.z.cell 1
  have g02 := P.z.free 0
  have g12 := P.z.free 1
  have p12 := P.s.cell 1
  have p32 := P.s.cell 3
  have p42 := P.s.cell 4
  have glt : w.heap.size < V1.heap.size := X1.out.z.lt
  obtain ⟨V2, hV2⟩ : ∃ V, V = (u2.setCell ⟨w.heap.size, 0, none⟩ (.int .i64 n)).setCell ⟨w.heap.size, 1, none⟩ (.slice a2 (limitL n (forgetL n l X) X 0 d).length c2) := ⟨_, rfl⟩
  have X2 := Lib.hid (show P3 w V2 _ _ _ _ _ by rw [hV2]; exact P.setz _ _)
  have S2 := Lib.hid (show SL V2 a2 (limitL n (forgetL n l X) X 0 d).length c2 (limitL n (forgetL n l X) X 0 d) by rw [hV2]; exact sl_set ⟨rfl, hc2, by omega, t2⟩ _ (.inr (fun p hp => by have := nw2 p hp; omega)) _ _)
  have hV2' := Lib.hid hV2
  clear b2 nw2 t2 hc2 hlen2 P glt hV2 q2 y01 y11 g01 g11 p11 p31 p41
  have q := Lib.hid (hL2.out V2 a2 _ c2 S2.out)
  go_wp2_with fail
  rw [← hV2'.out]
  refine q.out.mono ?_
  rintro e w7 ⟨a7, c7, rfl, hc7, s7, b7, nw7⟩
  have Zd := X2.out.r.below b7 X2.out.r.lt
  have y0 := Zd.cell 0
  have y1 := Zd.cell 1
  have f0 := Zd.free 0
  have f1 := Zd.free 1
  have hfin := Lib.hid (zone_put (n := n) (err := 0) X2.out.bl (by omega) X2.out.r hc7 s7 b7 nw7)
  clear Zd q
  go_wp2
  exact zone_ret2 hfin.out.1 hfin.out.2.1 _ _ 4 5 rfl rfl rfl rfl
end Go.Proofs.YtplgmmjppmpnoaaGreatDoor
