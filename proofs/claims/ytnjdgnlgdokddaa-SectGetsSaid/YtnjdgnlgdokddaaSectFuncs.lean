/- sect: package slices' IndexFunc, ContainsFunc, EqualFunc over sections; check, Find, Same. -/
import Derived.Test.YtnjdgnlgdokddaaSectSmall
namespace Go.Proofs.Ytnjdgnlgdokddaa
open Go.RowKit
set_option linter.unusedVariables false
set_option linter.unusedSimpArgs false

/-- The first section of which p holds, or -1. -/
def Index (p : Sc → Bool) (l : List Sc) (w : World) (e : Ending) (w' : World) : Prop :=
  Below w.heap.size w w' ∧ ((∃ k : Nat, k < l.length ∧ e = .returned (.int .i64 k) ∧ p (l.getD k sc0) = true ∧ ∀ j, j < k → p (l.getD j sc0) = false) ∨ (e = .returned (.int .i64 (-1)) ∧ ∀ j, j < l.length → p (l.getD j sc0) = false))

set_option maxRecDepth 100000 in
/-- slices.IndexFunc, handed long. -/
theorem index_long (r : Option Addr) (l : List Sc) (n c : Nat) (hn : n = l.length) (hl : n ≤ 9223372036854775807) (w : World) (h : SecS w.heap.size w r l) :
    Calls Try.prog 34 #[.slice r n c, .func (.func 41) #[] #[]] w (Index (fun s => decide ((1048576 : Int) < s.m)) l w) := by
  have h' := Lib.hid h
  have hn' := Lib.hid hn
  have hni : (n : Int) ≤ 9223372036854775807 := by omega
  clear h hn hl
  go_enter Try.func34, Try.ntmps34
  go_wp2
  go_loopw [8] (fun i wr => ∃ k : Nat, k ≤ n ∧ i = .int .i64 k ∧ Hid (∀ j, j < k → (fun s : Sc => decide ((1048576 : Int) < s.m)) (l.getD j sc0) = false) ∧ Hid (Below w.heap.size w wr)) (fun i _ => n - (intOf i).toNat)
  case atStart => exact ⟨0, Nat.zero_le _, rfl, Lib.hid (fun j hj => by omega), Lib.hid (Below.refl _ _)⟩
  case round =>
    obtain ⟨k, hk, rfl, hs, hB⟩ := hrel
    by_cases hlt : k < n
    · obtain ⟨b, off, rfl, -, e1, e2, -⟩ := (h'.out.below hB.out).at_ (i := k) (by have := hn'.out; omega)
      have hp : Hid (∀ v, (fun s : Sc => decide ((1048576 : Int) < s.m)) (l.getD k sc0) = v → v = (fun s : Sc => decide ((1048576 : Int) < s.m)) (l.getD k sc0)) := Lib.hid (fun v hv => hv.symm)
      have hcall := Lib.hid (long_any (l.getD k sc0).tag (l.getD k sc0).a (l.getD k sc0).m (l.getD k sc0).c wr)
      have hnext : Hid ((fun s : Sc => decide ((1048576 : Int) < s.m)) (l.getD k sc0) = false → ∀ j, j < k + 1 → (fun s : Sc => decide ((1048576 : Int) < s.m)) (l.getD j sc0) = false) := Lib.hid (fun hf j hj => by
        by_cases e : j = k
        · subst e; exact hf
        · exact hs.out j (by omega))
      have hkl : k < l.length := by have := hn'.out; omega
      have hfound : Hid ((fun s : Sc => decide ((1048576 : Int) < s.m)) (l.getD k sc0) = true → ∀ w', Below w.heap.size w w' → Index (fun s => decide ((1048576 : Int) < s.m)) l w (.returned (.int .i64 k)) w') := Lib.hid (fun ht w' hb => ⟨hb, .inl ⟨k, hkl, rfl, ht, hs.out⟩⟩)
      clear hkl hs hp
      simp only at hcall hnext hfound
      generalize hv : decide ((1048576 : Int) < ((l.getD k sc0).m : Int)) = v at *
      clear hv
      generalize (l.getD k sc0).tag = tg at *
      generalize (l.getD k sc0).a = ad at *
      generalize (l.getD k sc0).m = mm at *
      generalize (l.getD k sc0).c = cc at *
      go_wp2_with fail
      refine hcall.out.mono ?_
      rintro e w1 ⟨rfl, b1⟩
      have hB1 := Lib.hid (hB.out.trans (b1.mono hB.out.size))
      clear b1 hcall
      cases v
      · have hn2 := Lib.hid (hnext.out rfl)
        clear hnext hfound
        go_wp2
        go_roundw
        case rel => exact ⟨k + 1, by omega, by go_num, hn2, hB1⟩
        case measure => simp [intOf]; omega
      · have hr := Lib.hid (hfound.out rfl _ hB1.out)
        clear hnext hfound
        go_wp2
        go_ret
        exact hr.out
    · have hr : Index (fun s => decide ((1048576 : Int) < s.m)) l w (.returned (.int .i64 (-1))) wr := ⟨hB.out, .inr ⟨rfl, fun j hj => hs.out j (by have := hn'.out; omega)⟩⟩
      have hr' := Lib.hid hr
      clear hr hs
      go_wp2
      go_ret
      exact hr'.out

set_option maxRecDepth 100000 in
/-- slices.IndexFunc, handed tag. -/
theorem index_tag (g : Nat) (x : Int) (r : Option Addr) (l : List Sc) (n c : Nat) (hn : n = l.length) (hl : n ≤ 9223372036854775807) (w : World) (h : SecS w.heap.size w r l) (hg : Hid (w.cell? ⟨g, 0, none⟩ = some (.int .i64 x))) :
    Calls Try.prog 34 #[.slice r n c, .func (.func 35) #[] #[.pointer (some ⟨g, 0, none⟩)]] w (Index (fun s => s.tag == x) l w) := by
  have h' := Lib.hid h
  have hn' := Lib.hid hn
  have hni : (n : Int) ≤ 9223372036854775807 := by omega
  clear h hn hl
  go_enter Try.func34, Try.ntmps34
  go_wp2
  go_loopw [8] (fun i wr => ∃ k : Nat, k ≤ n ∧ i = .int .i64 k ∧ Hid (∀ j, j < k → (fun s : Sc => s.tag == x) (l.getD j sc0) = false) ∧ Hid (Below w.heap.size w wr)) (fun i _ => n - (intOf i).toNat)
  case atStart => exact ⟨0, Nat.zero_le _, rfl, Lib.hid (fun j hj => by omega), Lib.hid (Below.refl _ _)⟩
  case round =>
    obtain ⟨k, hk, rfl, hs, hB⟩ := hrel
    by_cases hlt : k < n
    · obtain ⟨b, off, rfl, -, e1, e2, -⟩ := (h'.out.below hB.out).at_ (i := k) (by have := hn'.out; omega)
      have hp : Hid (∀ v, (fun s : Sc => s.tag == x) (l.getD k sc0) = v → v = (fun s : Sc => s.tag == x) (l.getD k sc0)) := Lib.hid (fun v hv => hv.symm)
      have hcall := Lib.hid (isTag_any (l.getD k sc0).tag x (l.getD k sc0).a (l.getD k sc0).m (l.getD k sc0).c g wr ((hB.out.cell (p := ⟨g, 0, none⟩) (World.block_lt_of_cell? _ _ hg.out)).trans hg.out))
      have hnext : Hid ((fun s : Sc => s.tag == x) (l.getD k sc0) = false → ∀ j, j < k + 1 → (fun s : Sc => s.tag == x) (l.getD j sc0) = false) := Lib.hid (fun hf j hj => by
        by_cases e : j = k
        · subst e; exact hf
        · exact hs.out j (by omega))
      have hkl : k < l.length := by have := hn'.out; omega
      have hfound : Hid ((fun s : Sc => s.tag == x) (l.getD k sc0) = true → ∀ w', Below w.heap.size w w' → Index (fun s => s.tag == x) l w (.returned (.int .i64 k)) w') := Lib.hid (fun ht w' hb => ⟨hb, .inl ⟨k, hkl, rfl, ht, hs.out⟩⟩)
      clear hkl hs hp
      simp only at hcall hnext hfound
      generalize hv : ((l.getD k sc0).tag == x) = v at *
      clear hv
      generalize (l.getD k sc0).tag = tg at *
      generalize (l.getD k sc0).a = ad at *
      generalize (l.getD k sc0).m = mm at *
      generalize (l.getD k sc0).c = cc at *
      go_wp2_with fail
      refine hcall.out.mono ?_
      rintro e w1 ⟨rfl, b1⟩
      have hB1 := Lib.hid (hB.out.trans (b1.mono hB.out.size))
      clear b1 hcall
      cases v
      · have hn2 := Lib.hid (hnext.out rfl)
        clear hnext hfound
        go_wp2
        go_roundw
        case rel => exact ⟨k + 1, by omega, by go_num, hn2, hB1⟩
        case measure => simp [intOf]; omega
      · have hr := Lib.hid (hfound.out rfl _ hB1.out)
        clear hnext hfound
        go_wp2
        go_ret
        exact hr.out
    · have hr : Index (fun s => s.tag == x) l w (.returned (.int .i64 (-1))) wr := ⟨hB.out, .inr ⟨rfl, fun j hj => hs.out j (by have := hn'.out; omega)⟩⟩
      have hr' := Lib.hid hr
      clear hr hs
      go_wp2
      go_ret
      exact hr'.out


def longAny (l : List Sc) : Bool := l.any (fun s => decide ((1048576 : Int) < s.m))
set_option maxRecDepth 100000 in
theorem contains_long (v : Bool) (r : Option Addr) (l : List Sc) (n c : Nat) (hn : n = l.length) (hl : n ≤ 9223372036854775807) (hv : v = longAny l) (w : World) (h : SecS w.heap.size w r l) :
    Calls Try.prog 42 #[.slice r n c, .func (.func 41) #[] #[]] w (Gives (.bool v) w) := by
  have hi := Lib.hid (index_long r l n c hn hl w h)
  have hyes : Hid (∀ k : Nat, k < l.length → decide ((1048576 : Int) < (l.getD k sc0).m) = true → v = true) := Lib.hid (fun k hk hp => by
    rw [hv, longAny, List.any_eq_true]
    exact ⟨l.getD k sc0, by simp [List.getD, hk], hp⟩)
  have hno : Hid ((∀ j, j < l.length → decide ((1048576 : Int) < (l.getD j sc0).m) = false) → v = false) := Lib.hid (fun hp => by
    rw [hv, longAny, List.any_eq_false]
    intro s hs
    obtain ⟨j, hj, rfl⟩ := List.getElem_of_mem hs
    have := hp j hj
    rw [show l.getD j sc0 = l[j] by simp [List.getD, hj]] at this
    rw [this]; simp)
  clear h hv hn hl
  go_enter Try.func42, Try.ntmps42
  go_wp2_with fail
  refine hi.out.mono ?_
  rintro e w1 ⟨hb, ⟨k, hk, rfl, hp, -⟩ | ⟨rfl, hp⟩⟩
  · obtain rfl := hyes.out k hk hp
    clear hyes hno hp hi
    have hb' := Lib.hid hb
    clear hb
    go_wp2
    go_ret
    first | exact ⟨rfl, hb'.out⟩ | exact ⟨by simp, hb'.out⟩
  · obtain rfl := hno.out hp
    clear hyes hno hp hi
    have hb' := Lib.hid hb
    clear hb
    go_wp2
    go_ret
    exact ⟨rfl, hb'.out⟩

/-- Do tags rise from the last one on, up to 255? -/
def risesL : Int → List Int → Bool
  | _, [] => true
  | last, t :: r => (decide (last < t) && decide (t ≤ 255)) && risesL t r
/-- What is wrong with sections. -/
def checkL (l : List (Int × List Int)) : Int := if 16 < l.length then 3 else if l.any (fun s => decide (1048576 < s.2.length)) then 3 else if risesL 0 (l.map (·.1)) then 0 else 41
theorem rises_step {l : List Sc} {k : Nat} (hk : k < l.length) (last : Int) : risesL last ((l.map (·.tag)).drop k) = ((decide (last < (l.getD k sc0).tag) && decide ((l.getD k sc0).tag ≤ 255)) && risesL (l.getD k sc0).tag ((l.map (·.tag)).drop (k + 1))) := by
  have h2 : k < (l.map (·.tag)).length := by simpa using hk
  rw [List.drop_eq_getElem_cons h2]
  simp [risesL, List.getD, hk]
theorem any_long {l : List Sc} {B : Nat} {w : World} (h : ∀ s ∈ l, ScOK B w s) : longAny l = (l.map absS).any (fun s => decide (1048576 < s.2.length)) := by
  induction l with
  | nil => rfl
  | cons s l ih =>
    have := (h s (by simp)).2.1
    have ih' := ih (fun x hx => h x (by simp [hx]))
    unfold longAny at ih' ⊢
    have e : decide ((1048576 : Int) < (s.m : Int)) = decide (1048576 < (absS s).2.length) := by rw [decide_eq_decide]; simp only [absS]; omega
    rw [List.any_cons, List.map_cons, List.any_cons, ih', e]
theorem SecS.ok {B : Nat} {w : World} {r : Option Addr} {l : List Sc} (h : SecS B w r l) : ∀ s ∈ l, ScOK B w s := by
  intro s hs
  obtain ⟨j, hj, rfl⟩ := List.getElem_of_mem hs
  obtain ⟨b, off, _, _, _, _, h3⟩ := h.at_ hj
  simpa [List.getD, hj] using h3

set_option maxRecDepth 100000 in
theorem check_any' (r : Option Addr) (l : List Sc) (n c : Nat) (hn : n = l.length) (hl : n ≤ 9223372036854775807) (w : World) (h : SecS w.heap.size w r l) :
    Calls Try.prog 21 #[.slice r n c] w (Gives (.int .i64 (checkL (l.map absS))) w) := by
  have hlen : (l.map absS).length = n := by simp [hn]
  by_cases hbig : 16 < n
  · have hr : checkL (l.map absS) = 3 := by unfold checkL; rw [if_pos (by omega)]
    rw [hr]
    have hni : (16 : Int) < n := by omega
    have hni2 : (n : Int) ≤ 9223372036854775807 := by omega
    clear h hbig hl hlen
    go_enter Try.func21, Try.ntmps21
    go_wp2
    go_ret
    exact ⟨rfl, Below.refl _ _⟩
  have hal := any_long h.ok
  have hct := Lib.hid (contains_long (longAny l) r l n c hn hl rfl w h)
  have hni : (n : Int) ≤ 16 := by omega
  have hn' := Lib.hid hn
  have h' := Lib.hid h
  cases hany : longAny l
  · rw [hany] at hct hal
    have hr : Hid (checkL (l.map absS) = if risesL 0 (l.map (·.tag)) then 0 else 41) := Lib.hid (by
      unfold checkL
      rw [if_neg (by omega), ← hal, if_neg (by simp)]
      have : (l.map absS).map (·.1) = l.map (·.tag) := by simp [absS]
      rw [this])
    clear hany hal h hbig hl hlen hn
    go_enter Try.func21, Try.ntmps21
    go_wp2_with fail
    refine hct.out.mono ?_
    rintro e w1 ⟨rfl, b1⟩
    have B1 := Lib.hid b1
    clear b1 hct
    go_wp2
    go_loopw [4, 17] (fun t i wr => ∃ (k : Nat) (last : Int), k ≤ n ∧ i = .int .i64 k ∧ t = .int .i64 last ∧ Hid (risesL 0 (l.map (·.tag)) = risesL last ((l.map (·.tag)).drop k)) ∧ Hid (Below w.heap.size w wr)) (fun _ i _ => n - (intOf i).toNat)
    case atStart => exact ⟨0, 0, Nat.zero_le _, rfl, rfl, Lib.hid (by simp), B1⟩
    case round =>
      obtain ⟨k, last, hk, rfl, rfl, hs, hB⟩ := hrel
      by_cases hlt : k < n
      · obtain ⟨b, off, rfl, -, e1, e2, -⟩ := (h'.out.below hB.out).at_ (i := k) (by have := hn'.out; omega)
        have hst := Lib.hid (rises_step (l := l) (k := k) (by have := hn'.out; omega) last)
        have hf := Lib.hid (fun W => follows_any last (l.getD k sc0).tag W)
        generalize (l.getD k sc0).tag = tg at *
        generalize (l.getD k sc0).a = ad at *
        generalize (l.getD k sc0).m = mm at *
        generalize (l.getD k sc0).c = cc at *
        have hB2 : Below w.heap.size w (wr.alloc (.cells #[.int .i64 tg, .slice ad mm cc] 39)) := hB.out.alloc hB.out.size _
        have hB2' := Lib.hid hB2
        clear hB2
        cases hfv : (decide (last < tg) && decide (tg ≤ 255))
        · rw [hfv] at hf
          have hr2 : Hid (checkL (l.map absS) = 41) := Lib.hid (by rw [hr.out, hs.out, hst.out, hfv]; rfl)
          clear hfv hs hst hr
          go_wp2_with fail
          refine (hf.out _).mono ?_
          rintro e w2 ⟨rfl, rfl⟩
          go_wp2
          go_ret
          exact ⟨by rw [hr2.out]; rfl, hB2'.out⟩
        · rw [hfv] at hf
          have hs2 : Hid (risesL 0 (l.map (·.tag)) = risesL tg ((l.map (·.tag)).drop (k + 1))) := Lib.hid (by rw [hs.out, hst.out, hfv]; rfl)
          clear hfv hs hst
          go_wp2_with fail
          refine (hf.out _).mono ?_
          rintro e w2 ⟨rfl, rfl⟩
          go_wp2
          go_roundw
          case rel => exact ⟨k + 1, tg, by omega, by go_num, rfl, hs2, hB2'⟩
          case measure => simp [intOf]; omega
      · have hr2 : Hid (checkL (l.map absS) = 0) := Lib.hid (by
          rw [hr.out, hs.out, List.drop_of_length_le (by have := hn'.out; simp; omega)]; rfl)
        clear hs hr
        go_wp2
        go_ret
        exact ⟨by rw [hr2.out]; rfl, hB.out⟩
  · rw [hany] at hct hal
    have hr : checkL (l.map absS) = 3 := by
      unfold checkL
      rw [if_neg (by omega), ← hal, if_pos rfl]
    rw [hr]
    clear hany hal h hbig hl hlen hn hr
    go_enter Try.func21, Try.ntmps21
    go_wp2_with fail
    refine hct.out.mono ?_
    rintro e w1 ⟨rfl, b1⟩
    have B1 := Lib.hid b1
    clear b1 hct
    go_wp2
    go_ret
    exact ⟨rfl, B1.out⟩
end Go.Proofs.Ytnjdgnlgdokddaa
