/- The document's Get of sections: the walk. -/
import Derived.Test.YtnjdgnlgdokddaaSectGets0
import Derived.Test.YtnjdgnlgdokddaaSectShift
import Derived.Test.YtnjdgnlgdokddaaSectPut
import Derived.Test.YtnjdgnlgdokddaaCurRefMore
import Derived.Test.YtnjdgnlgdokddaaFoot
namespace Go.Proofs.Ytnjdgnlgdokddaa
open Go.RowKit
set_option linter.unusedVariables false
set_option linter.unusedSimpArgs false

def rdAt (w : World) (r : Nat) : Nat := match w.cell? ⟨r, 1, none⟩ with | some v => (intOf v).toNat | none => 0
theorem Rf.rdAt {w : World} {r : Nat} {a : Option Addr} {cap : Nat} {bs : List Int} {p : Nat} {e : Int} (h : Rf w r a cap bs p e) : rdAt w r = p := by
  have := h.blk.cell 1
  simp at this
  unfold Go.Proofs.Ytnjdgnlgdokddaa.rdAt
  rw [this]
  simp [intOf]
theorem not_reader (x : Option Addr) (y z : Nat) (p e : Int) : ∀ (i : Nat) (u : Value), (#[.slice x y z, .int .i64 p, .int .i64 e] : Array Value)[i]? = some u → ∀ m, u ≠ .int .u8 m := by
  intro i u h m he
  subst he
  match i, h with
  | 0, h => simp at h
  | 1, h => simp at h
  | 2, h => simp at h
  | i + 3, h => simp at h
/-- A row of sections stays while another block changes. -/
theorem SRow.aside {w0 w w' : World} {v : Value} {l : List Sc} {g : Nat} {t : TypeId} {cs : Array Value} (h : SRow w0 w v l) (hg : Holds w g t cs) (hc : ∀ (i : Nat) (u : Value), cs[i]? = some u → ∀ n, u ≠ .int .u8 n) (hne : ∀ k, v.ownBlock = some k → k ≠ g) (hb : BelowE [g] w.heap.size w w') : SRow w0 w' v l := by
  refine ⟨own_belowE h.1 hb (fun k hk => by simpa using hne k hk), fun s hs => ⟨?_, fun k hk => ?_⟩⟩
  · obtain ⟨o1, o2, o3, o4, o5, o6⟩ := (h.2 s hs).1
    have o7 : SeesE [] .u8 w.heap.size w s.a s.b := o6.out (by simp)
    exact ⟨o1, o2, o3, o4, o5, ((sees_not o7 hg hc).belowE hb).sees.mono hb.size⟩
  · have q := sees_not ((h.2 s hs).2 k hk) hg hc
    exact ((q.belowE (hb.wider (by simp))).fewer (by simp)).mono hb.size
theorem SRow.not_r {w0 w : World} {v : Value} {l : List Sc} {r : Nat} {x : Option Addr} {y z : Nat} {p e : Int} (h : SRow w0 w v l) (hr : Holds w r 57 #[.slice x y z, .int .i64 p, .int .i64 e]) : ∀ k, v.ownBlock = some k → k ≠ r := by
  intro k hk e1
  subst e1
  rcases h.1.2 with ⟨rfl, -⟩ | ⟨g, cap, cur, rfl, -, hg, -⟩
  · simp [Value.ownBlock] at hk
  · simp [Value.ownBlock] at hk
    subst hk
    unfold Holds at hr
    rw [hr] at hg
    simp at hg
theorem SRow.moves {w0 w w' : World} {v : Value} {l : List Sc} {r : Nat} {x : Option Addr} {y z : Nat} {p e : Int} (h : SRow w0 w v l) (hr : Holds w r 57 #[.slice x y z, .int .i64 p, .int .i64 e]) (hb : BelowE [r] w.heap.size w w') : SRow w0 w' v l := by
  exact h.aside hr (not_reader _ _ _ _ _) (h.not_r hr) hb
theorem sees_same {k : IntKind} {B : Nat} {w w' : World} {a : Option Addr} {l : List Int} (h : Sees k B w a l) (hb : ∀ j, j < B → w'.heap[j]? = w.heap[j]?) : Sees k B w' a l := by
  rcases h with h | ⟨b, off, ha, hB, hc⟩
  · exact .inl h
  · exact .inr ⟨b, off, ha, hB, fun i hi => (World.cell?_of_block (a := ⟨b, off + i, none⟩) (h := hb b hB)).trans (hc i hi)⟩
theorem mkRf {w : World} {r : Nat} {a : Option Addr} {cap : Nat} {bs : List Int} {p : Nat} {e : Int} (h1 : Holds w r 57 #[.slice a bs.length cap, .int .i64 p, .int .i64 e]) (h2 : Sees .u8 r w a bs) (h3 : Bs bs) (h4 : bs.length ≤ maxLen) (h5 : bs.length ≤ cap) (h6 : p ≤ bs.length) : Rf w r a cap bs p e :=
  ⟨h1, (h2.out (by simp)).mono (Nat.le_of_lt h1.lt), h3, h4, h5, h6⟩
theorem sees_moved {r : Nat} {a : Option Addr} {l : List Int} {w w' : World} (h : Sees .u8 r w a l) (hb : BelowE [r] w.heap.size w w') (hr : r ≤ w.heap.size) : Sees .u8 r w' a l :=
  sees_same h (fun j hj => hb.block j (by omega) (by simp; omega))
theorem below_out {B r : Nat} {w a b : World} (hb : Below B w a) (hBw : B ≤ a.heap.size) (hr : B ≤ r) (h : BelowE [r] a.heap.size a b) : Below B w b :=
  hb.trans ((h.mono hBw).less (by simp; omega)).none
theorem wpList_append_sec2 {w0 w : World} {ops : Array Oper} {rest : List Oper} {o : Oper} {a : Act} {Q : Exit → Act → World → Prop}
    (hg : o.guard = none) (s x : Operand) (hop : o.op = Op.call { callee := Callee.builtin Builtin.append, args := #[s, x], argTypes := #[22, 22] })
    (v : Value) (l : List Sc) (sc : Sc) (hrow : SRow w0 w v l) (hb : Below w0.heap.size w0 w) (ad : Addr) (c : Nat) (e0 : w.cell? (ad.add 0) = some (.int .i64 sc.tag)) (e1 : w.cell? (ad.add 1) = some (.slice sc.a sc.m sc.c))
    (hsc : ScOK w.heap.size w sc) (hse : ∀ k, v.ownBlock = some k → SeesE [k] .u8 w.heap.size w sc.a sc.b)
    (hsv : a.eval s = v) (hx : a.eval x = .slice (some ad) 1 c) (hn : l.length ≤ 100000)
    (hK : ∀ v' w', SRow w0 w' v' (l ++ [sc]) → Below w0.heap.size w0 w' → (∀ j, j < w.heap.size → v.ownBlock ≠ some j → w'.heap[j]? = w.heap[j]?) → (∀ k, v'.ownBlock = some k → v.ownBlock = some k ∨ w.heap.size ≤ k) → wpList Try.prog ops Q rest (a.put o.dst v') w') : wpList Try.prog ops Q (o :: rest) a w := by
  obtain ⟨i0, hi, hz0, hz1, hz2⟩ := info_parts infoSect
  obtain ⟨v', w', hrun, h1, h2, -, h3⟩ := run_append_own_at (P := Try.prog) w w0.heap.size 22 o.type 39 i0 _ 2 32 Try.underlying22 hi hz0 hz1 hz2 rfl (by omega) v l.length (scells l) hrow.1 ad 1 c [.int .i64 sc.tag, .slice sc.a sc.m sc.c] rfl
    (by
      intro j u hj
      match j, hj with
      | 0, hj => simp at hj; subst hj; exact e0
      | 1, hj => simp at hj; subst hj; exact e1) (by intro u hu; simp at hu; rcases hu with rfl | rfl <;> rfl) (by simp [maxLen]; omega) (by omega) hb.size
  refine wpList_plain hg fun K hK' => ?_
  unfold Oper.wp
  simp [execOp, hop, resolve, invoke, builtin, hsv, hx, hrun, Result.andThen]
  refine hK' _ _ (hK v' w' ⟨by rw [List.length_append, scells_add]; exact h1, ?_⟩ (hb.grown h2 hb.size fun k hk => (hrow.1.lt k hk).1) (fun j hj hne => h2.block j hj (fun e => hne e.symm)) (fun k hk => by
    rcases h3 with h | h
    · left; rw [← h]; exact hk
    · right; rw [h] at hk; injection hk with hk; omega))
  have key : ∀ s : Sc, ScOK w.heap.size w s → (∀ k, v.ownBlock = some k → SeesE [k] .u8 w.heap.size w s.a s.b) → ScOK w'.heap.size w' s ∧ ∀ k, v'.ownBlock = some k → SeesE [k] .u8 w'.heap.size w' s.a s.b := by
    intro s ok hs
    have hall : ∀ X : List Nat, (∀ y ∈ X, v.ownBlock = some y ∨ w.heap.size ≤ y) → SeesE X .u8 w'.heap.size w' s.a s.b := by
      intro X hX
      rcases ok.2.2.2.2.2 with h | ⟨b, off, ha, hB, hc⟩
      · exact .inl h
      · by_cases h0 : s.b = []
        · exact .inl h0
        have hbne : v.ownBlock ≠ some b := by
          intro e
          rcases hs b e with h | ⟨b2, off2, ha2, hB2, hx2, hc2⟩
          · exact h0 h
          · rw [ha] at ha2
            injection ha2 with ha2
            injection ha2 with hb2
            subst hb2
            simp at hx2
        refine .inr ⟨b, off, ha, Nat.lt_of_lt_of_le hB h2.size, fun hm => ?_, fun i hi => ?_⟩
        · rcases hX b hm with h | h
          · exact hbne h
          · omega
        · rw [← hc i hi]
          exact World.cell?_of_block (a := ⟨b, off + i, none⟩) (h := h2.block b hB (fun e => hbne e.symm))
    refine ⟨⟨ok.1, ok.2.1, ok.2.2.1, ok.2.2.2.1, ok.2.2.2.2.1, (hall [] (by simp)).sees⟩, fun k hk => hall [k] ?_⟩
    intro y hy
    simp at hy
    subst hy
    rcases h3 with h | h
    · left; rw [← h]; exact hk
    · right; rw [h] at hk; injection hk with hk; omega
  intro s hs
  rcases List.mem_append.1 hs with hs | hs
  · exact key s (hrow.2 s hs).1 (hrow.2 s hs).2
  · simp at hs
    subst hs
    exact key _ hsc hse
set_option maxRecDepth 100000 in
set_option maxHeartbeats 4000000 in
theorem rget_any (aB : Option Addr) (B : List Int) (cB : Nat) (hBl : B.length ≤ 1000000) (hcB : B.length ≤ cB) (hB : Bs B) (w : World) (hs : Sees .u8 w.heap.size w aB B) :
    Calls Try.prog 15 #[.slice aB B.length cB] w (GetS (getAll B) w) := by
  obtain ⟨i0, hi, hz0, hz1, hz2⟩ := info_parts infoU8
  have hh := Lib.hid (head_any w)
  have hs' := Lib.hid hs
  have hBb := Lib.hid hB
  have hBi : (B.length : Int) ≤ 1000000 := by omega
  clear hs hB
  go_enter Try.func15, Try.ntmps15
  go_wp2_with fail
  refine hh.out.mono ?_
  intro e w1 hmade
  obtain ⟨a5, c5, rfl, s5, b5⟩ := hmade.open 5 rfl
  have s5' := Lib.hid s5
  have b5' := Lib.hid b5
  clear hh hmade s5 b5
  go_wp2
  go_loopw [6] (fun i wr => ∃ k : Nat, k ≤ 5 ∧ i = .int .i64 k ∧ Hid (∀ j, j < k → headOk B j = true) ∧ Hid (Below w1.heap.size w1 wr)) (fun i _ => 5 - (intOf i).toNat)
  case atStart => exact ⟨0, by omega, rfl, Lib.hid (by intro j hj; omega), Lib.hid (Below.refl _ _)⟩
  case round =>
    obtain ⟨k, hk, rfl, hok, hb1⟩ := hrel
    have hbl := Lib.hid (b5'.out.trans (hb1.out.mono b5'.out.size))
    by_cases hlt : k < 5
    · have hgood : Hid (headOk B k = true → ∀ j, j < k + 1 → headOk B j = true) := Lib.hid (fun h j hj => by
        by_cases e : j = k
        · subst e; exact h
        · exact hok.out j (by omega))
      have hbad : Hid (headOk B k = false → getAll B = ([], k, 40)) := Lib.hid (fun h => by
        unfold getAll; rw [head_some hlt hok.out h])
      obtain ⟨b2, off2, rfl, hcell2⟩ : ∃ b off, a5 = some ⟨b, off, none⟩ ∧ wr.cell? ⟨b, off + k, none⟩ = some (.int .u8 (headL.getD k 0)) := by
        rcases s5'.out.below hb1.out with h | ⟨b, off, ha, _, hc⟩
        · simp [headL] at h
        · exact ⟨b, off, ha, hc k (by simpa [headL] using hlt)⟩
      by_cases hkn : k < B.length
      · have hkB : k < B.length := hkn
        obtain ⟨b, off, rfl, -, hcell⟩ : ∃ b off, aB = some ⟨b, off, none⟩ ∧ True ∧ wr.cell? ⟨b, off + k, none⟩ = some (.int .u8 (B.getD k 0)) := by
          rcases hs'.out.below hbl.out with h | ⟨b, off, ha, _, hc⟩
          · rw [h] at hkB; simp at hkB
          · exact ⟨b, off, ha, trivial, hc k hkB⟩
        by_cases hv : B.getD k 0 = headL.getD k 0
        · have hg2 := Lib.hid (hgood.out (by unfold headOk; rw [decide_eq_true hkB, hv]; simp))
          rw [hv] at hcell
          clear hgood hbad hv hok
          generalize headL.getD k 0 = hv at *
          go_wp2
          go_quiet (fail)
          go_wp2
          go_roundw
          case rel => exact ⟨k + 1, by omega, by go_num, hg2, Lib.hid (Below.drewN hb1.out nq)⟩
          case measure => simp [intOf]; omega
        · have hne : (B.getD k 0 == headL.getD k 0) = false := by simpa using hv
          have hne2 : (B.getD k 0 != headL.getD k 0) = true := by simpa using hv
          have hR := Lib.hid (hbad.out (by unfold headOk; rw [hne]; simp))
          have hfin : Hid (∀ w1, Below w.heap.size w w1 → GetS (getAll B) w (.returned (.tuple #[.slice none 0 0, .int .i64 k, .int .i64 40])) w1) := Lib.hid (fun w1 hb => by rw [hR.out]; exact gets_bad rfl hb)
          clear hgood hbad hkB hv hok hR
          generalize headL.getD k 0 = hv at *
          generalize B.getD k 0 = bv at *
          go_wp2
          go_quiet (fail)
          go_wp2
          go_ret3
          exact hfin.out _ (Below.drewN hbl.out nq)
      · have hkB : ¬ k < B.length := hkn
        have hR := Lib.hid (hbad.out (by unfold headOk; rw [decide_eq_false hkB]; simp))
        have hfin : Hid (∀ w1, Below w.heap.size w w1 → GetS (getAll B) w (.returned (.tuple #[.slice none 0 0, .int .i64 k, .int .i64 40])) w1) := Lib.hid (fun w1 hb => by rw [hR.out]; exact gets_bad rfl hb)
        have hkn2 : (B.length : Int) ≤ (k : Int) := by omega
        clear hgood hbad hkB hok hR
        go_wp2
        go_quiet (fail)
        go_wp2
        go_ret3
        exact hfin.out _ (Below.drewN hbl.out nq)
    · have hR : Hid (getAll B = getG (B.length + 1) [] 5 B) := Lib.hid (by
        unfold getAll; rw [head_none (fun j hj => hok.out j (by omega))])
      have h5 : 5 ≤ B.length := by
        have := hok.out 4 (by omega)
        unfold headOk at this
        rw [Bool.and_eq_true] at this
        have h6 := of_decide_eq_true this.1
        omega
      clear hok hb1 s5' b5'
      have o2 := World.ownsRow_made (e := 5) (size := 1) wr #[] 0 (Nat.zero_le _) (by decide) (by simp)
      have hB4 : Below wr.heap.size wr (wr.alloc (.cells #[] 5)) := (Below.refl _ _).alloc (Nat.le_refl _) _
      have hB04 := hbl.out.trans (hB4.mono hbl.out.size)
      have s2 : Sees .u8 w.heap.size (wr.alloc (.cells #[] 5)) aB B := hs'.out.below hB04
      have hB04' := Lib.hid hB04
      clear hB4 hB04
      go_wp2_with (at_builtin; refine wpList_append_foot _ rfl (.tmp 37) (.tmp 38) 25 rfl 5 i0 (.int .u8 0) 1 Try.underlying25 hi hz0 hz1 hz2 rfl .u8 _ [] o2 w.heap.size aB B s2 B.length cB rfl rfl rfl (by simp [maxLen]; omega) (by simp; omega) ?_; intro v3 w3 own3 grow3 blk3; simp only [List.nil_append] at own3; obtain ⟨a3, c3, rfl, -, see3⟩ := sees_own own3)
      have hcap3 := own_cap own3
      have hB5 : Below w.heap.size w w3 := hB04'.out.grown grow3 hB04'.out.size (by intro k hk; simp [Value.ownBlock] at hk; have := hbl.out.size; omega)
      have hB6 := (Below.refl w3.heap.size w3).alloc (Nat.le_refl _) (.cells #[.slice a3 B.length c3, .int .i64 5, .int .i64 0] 57)
      have hB7 := hB5.trans (hB6.mono hB5.size)
      have e3 : SeesE [w3.heap.size] .u8 w3.heap.size w3 a3 B := see3.out (by simp)
      have F4 : Rf (w3.alloc (.cells #[.slice a3 B.length c3, .int .i64 5, .int .i64 0] 57)) w3.heap.size a3 c3 B 5 0 :=
        ⟨Holds.new _ _ _, (e3.belowE (.of hB6)).mono (by simp), hBb.out, by unfold maxLen; omega, hcap3, h5⟩
      have hrw : w.heap.size ≤ w3.heap.size := hB5.size
      obtain ⟨w4, hw4⟩ : ∃ w4, w4 = w3.alloc (.cells #[.slice a3 B.length c3, .int .i64 5, .int .i64 0] 57) := ⟨_, rfl⟩
      rw [← hw4] at F4 hB7
      have hw4' := Lib.hid hw4
      have F4' := Lib.hid F4.blk
      have hA4 : Hid (Sees .u8 w3.heap.size w4 a3 B) := Lib.hid (by rw [hw4]; exact see3.below hB6)
      have hB7' := Lib.hid hB7
      clear hB5 hB6 hB04' e3 own3 grow3 blk3 see3 s2 o2 F4 hB7 hw4 hbl hlt hk
      go_wp2
      rw [← hw4'.out]
      clear hw4'
      generalize w3.heap.size = r at *
      go_loopw [8, 9] (fun v lst wr => ∃ (at_ f : Nat) (l : List Sc), at_ ≤ B.length ∧ lst = .int .i64 (lastA (l.map absS)) ∧ Hid (SRow w wr v l) ∧ Hid (∀ k, v.ownBlock = some k → r < k) ∧ Hid (Holds wr r 57 #[.slice a3 B.length c3, .int .i64 at_, .int .i64 0]) ∧ Hid (Sees .u8 r wr a3 B) ∧ Hid (getG (f + 1) (l.map absS) at_ B = getAll B) ∧ B.length - at_ ≤ f ∧ l.length ≤ 16 ∧ Hid (Below w.heap.size w wr)) (fun _ _ wr => B.length - rdAt wr r)
      case atStart => exact ⟨5, B.length, [], h5, rfl, Lib.hid ⟨⟨rfl, .inl ⟨rfl, rfl⟩⟩, by simp⟩, Lib.hid (fun k hk => by simp [Value.ownBlock] at hk), F4', hA4, Lib.hid hR.out.symm, by omega, by simp, hB7'⟩
      case round =>
        obtain ⟨at_, f, l, hat, rfl, hrow, hup, hrd, hA, hG, hf, hl16, hB2⟩ := hrel
        obtain ⟨al, cl, rfl, -, -, -, -⟩ := secs_own hrow.out.1 (fun s hs => (hrow.out.2 s hs).1) (Nat.le_refl _)
        have hrf := Lib.hid (mkRf hrd.out hA.out hBb.out (by unfold maxLen; omega) hcap3 hat)
        have hmeas := hrf.out.rdAt
        have c1 := hrf.out.blk.cell 1
        simp at c1
        by_cases hlt : at_ < B.length
        · have RO := one_ref hBb.out (by omega) hat (lastA (l.map absS)) l.length
          have hby := Lib.hid (fun (W : World) (h : Rf W r a3 c3 B at_ 0) => rbyte_any r a3 c3 B at_ 0 W h)
          have htx := Lib.hid (fun (W : World) (h : Rf W r a3 c3 B (byteO B at_ 0).2.1 (byteO B at_ 0).2.2) => rtext_any r a3 c3 B _ _ 1048576 (by omega) W h)
          have hp1 := byteO_at hat 0
          have hp2 := textO_at hp1 1048576 (byteO B at_ 0).2.2
          have hsz := textO_size (bs := B) 1048576 (byteO B at_ 0).2.1 (byteO B at_ 0).2.2
          generalize byteO B at_ 0 = T at *
          obtain ⟨tg, p1, e1⟩ := T
          simp only at RO hby htx hp1 hp2 hsz
          have hwd := Lib.hid (fun (W : World) (h : Rf W r a3 c3 B (textO 1048576 B p1 e1).2.1 (textO 1048576 B p1 e1).2.2) => rword_any r a3 c3 B _ _ W h)
          have hp3 := wordO_at hp2 (textO 1048576 B p1 e1).2.2
          generalize textO 1048576 B p1 e1 = X at *
          obtain ⟨sx, p2, e2⟩ := X
          simp only at RO htx hwd hp2 hp3 hsz
          generalize wordO B p2 e2 = Y at *
          obtain ⟨wv, p3, e3⟩ := Y
          simp only at RO hwd hp3
          have hstep : Hid (∀ y, y ≠ 0 → oneE (lastA (l.map absS)) l.length (B.drop at_) = y → getAll B = ([], at_, y)) := Lib.hid (fun y h h2 => by
            rw [← hG.out, getG, if_pos (by omega), List.length_map, h2, if_neg h])
          have RO' := Lib.hid RO
          have fx := hrf.out.blk.free 1
          clear RO
          have hcv := Lib.hid (fun (s : ByteArray) (W : World) => run_bytes_sees (P := Try.prog) W 9 25 5 s Try.underlying9 Try.underlying25 Try.underlying5)
          go_wp2_with fail
          refine (hby.out _ hrf.out).mono ?_
          rintro e w5 ⟨rfl, hm1⟩
          have R5 := hrf.out.moved hm1 hp1
          have S5 := hrow.out.moves hrf.out.blk hm1.2
          have A5 := sees_moved hA.out hm1.2 (Nat.le_of_lt hrf.out.blk.lt)
          have B5 := below_out hB2.out hB2.out.size hrw hm1.2
          have own5 := Lib.hid (fun k hk => (S5.1.lt k hk).2)
          have lr5 : r < w5.heap.size := R5.blk.lt
          obtain ⟨w6, hw6⟩ : ∃ w6, w6 = w5.alloc (.cells #[.int .i64 tg, .slice none 0 0] 39) := ⟨_, rfl⟩
          have b6 : Below w5.heap.size w5 w6 := by rw [hw6]; exact below_box _ _ _
          have H6 : Holds w6 w5.heap.size 39 #[.int .i64 tg, .slice none 0 0] := by rw [hw6]; exact Holds.new _ _ _
          have R6 := R5.ahead b6
          have S6 := S5.below b6
          have A6 := A5.below (b6.mono (Nat.le_of_lt lr5))
          have B6 := B5.trans (b6.mono B5.size)
          have hw6' := Lib.hid hw6
          have S6' := Lib.hid S6
          have R6' := Lib.hid R6
          have H6' := Lib.hid H6
          have A6' := Lib.hid A6
          have B6' := Lib.hid B6
          clear R5 S5 A5 B5 b6 H6 R6 S6 A6 B6 hm1 hw6 hrow hrd hA hrf hB2 hby
          go_wp2_with fail
          rw [← hw6'.out]
          clear hw6'
          have lg : w5.heap.size < w6.heap.size := H6'.out.lt
          have hrg : w.heap.size ≤ w5.heap.size := by omega
          generalize w5.heap.size = g at *
          refine (htx.out _ R6'.out).mono ?_
          rintro e w7 ⟨rfl, hm2⟩
          have R7 := R6'.out.moved hm2 hp2
          have S7 := S6'.out.moves R6'.out.blk hm2.2
          have A7 := sees_moved A6'.out hm2.2 (by omega)
          have B7 := below_out B6'.out B6'.out.size hrw hm2.2
          have H7 := H6'.out.belowE hm2.2 lg (by simp; omega)
          obtain ⟨c8, w8, hrun, hcap8, hse8, hb8, hsz8⟩ := hcv.out sx w7
          have R8 := R7.ahead hb8
          have S8 := S7.below hb8
          have A8 := A7.below (hb8.mono (by have := R7.blk.lt; omega))
          have B8 := B7.trans (hb8.mono B7.size)
          have H8 := H7.below hb8 H7.lt
          have q8 := H8.free 1
          have q7 := H8.cell 1
          simp at q7
          have lg7 : g < w7.heap.size := H7.lt
          obtain ⟨w9, hw9⟩ : ∃ w9, w9 = w8.setCell ⟨g, 1, none⟩ (.slice (some ⟨w7.heap.size, 0, none⟩) sx.size c8) := ⟨_, rfl⟩
          have b9 : BelowE [g] w8.heap.size w8 w9 := by rw [hw9]; exact (BelowE.refl _ _ _).setIn (by simp) _
          have H9 : Holds w9 g 39 #[.int .i64 tg, .slice (some ⟨w7.heap.size, 0, none⟩) sx.size c8] := by rw [hw9]; have := H8.set 1 (.slice (some ⟨w7.heap.size, 0, none⟩) sx.size c8); simpa using this
          have S9 := S8.aside H8 (not_sect _ _ _ _) (fun k hk => by have := own5.out k hk; omega) b9
          have N9 : Holds w9 r 57 #[.slice a3 B.length c3, .int .i64 p2, .int .i64 e2] := R8.blk.belowE b9 R8.blk.lt (by simp; omega)
          have A9 : Sees .u8 r w9 a3 B := sees_same A8 (fun j hj => b9.block j (by have := R8.blk.lt; omega) (by simp; omega))
          have R9 := mkRf N9 A9 hBb.out (by unfold maxLen; omega) hcap3 hp2
          have B9 : Below w.heap.size w w9 := below_out B8 B8.size hrg b9
          have X9 : Sees .u8 w9.heap.size w9 (some ⟨w7.heap.size, 0, none⟩) (codes sx) := by
            have := (sees_not (hse8.out (X := []) (by simp)) H8 (not_sect _ _ _ _)).belowE b9
            exact this.sees.mono b9.size
          have d1 := N9.cell 1
          simp at d1
          rw [hw9] at d1
          have d0 := R8.blk.cell 1
          simp at d0
          have hne1 : ¬ r = g := by omega
          have hne2 : ¬ g = r := by omega
          have hw9' := Lib.hid hw9
          have S9' := Lib.hid S9
          have R9' := Lib.hid R9
          have H9' := Lib.hid H9
          have A9' := Lib.hid A9
          have B9' := Lib.hid B9
          have X9' := Lib.hid X9
          have hrun' := hrun
          clear R7 S7 A7 B7 H7 R8 S8 A8 B8 H8 b9 H9 S9 N9 A9 R9 B9 X9 hm2 hse8 hb8 S6' R6' H6' A6' B6' htx hcv hw9
          go_wp2_with fail
          rw [← hw9'.out]
          clear hw9'
          refine (hwd.out _ R9'.out).mono ?_
          rintro e w10 ⟨rfl, hm3⟩
          have R10 := R9'.out.moved hm3 hp3
          have S10 := S9'.out.moves R9'.out.blk hm3.2
          have A10 := sees_moved A9'.out hm3.2 (Nat.le_of_lt R9'.out.blk.lt)
          have B10 := below_out B9'.out B9'.out.size hrw hm3.2
          have H10 := H9'.out.belowE hm3.2 H9'.out.lt (by simp; omega)
          have X10 : SeesE [] .u8 w10.heap.size w10 (some ⟨w7.heap.size, 0, none⟩) (codes sx) := by
            have := (sees_not (X9'.out.out (X := []) (by simp)) R9'.out.blk (not_reader _ _ _ _ _)).belowE hm3.2
            exact this.sees.mono hm3.2.size |>.out (by simp)
          have m0 := R10.blk.cell 2
          have m1 := H10.cell 0
          have m2 := H10.cell 1
          simp at m0 m1 m2
          have S10' := Lib.hid S10
          have R10' := Lib.hid R10
          have H10' := Lib.hid H10
          have A10' := Lib.hid A10
          have B10' := Lib.hid B10
          have X10' := Lib.hid X10
          clear S10 R10 H10 A10 B10 X10 S9' R9' H9' A9' B9' X9' hm3 hwd hrun hrun' q7 q8 d0 d1
          have hfin : Hid (∀ y w1, getAll B = ([], at_, y) → Below w10.heap.size w10 w1 → GetS (getAll B) w (.returned (.tuple #[.slice none 0 0, .int .i64 at_, .int .i64 y])) w1) := Lib.hid (fun y w1 hy hb => by rw [hy]; exact gets_bad rfl (B10'.out.trans (hb.mono B10'.out.size)))
          by_cases h30 : e3 = 0
          · subst h30
            obtain ⟨g1, g2, g3, g4, g5, g6, g7, g8, g9, g10, g11, g12⟩ := RO'.out.good rfl
            obtain ⟨a', hs1, hs2⟩ := (hs'.out.below B10'.out).cut at_ p2 cB hp2 g4 hcB
            have hsl := slice_between (n := B.length) hs1 g4 (by omega)
            have hsum := Lib.hid (refsum_any a' ((B.take p2).drop at_) (p2 - at_) (cB - at_) (by simp; omega) w.heap.size w10 (by unfold maxLen; simp; omega) ((hBb.out.take p2).drop at_) hs2)
            rw [List.drop_take] at hsum
            generalize csum 0 ((B.drop at_).take (p2 - at_)) = cs at *
            have g12' := Lib.hid g12
            have hs1' := Lib.hid hs1
            have g123 := Lib.hid (And.intro g1 (And.intro g2 g3))
            clear g1 g2 g3 g12 hs1 hs2
            go_wp2_with fail
            refine hsum.out.mono ?_
            rintro e w11 ⟨rfl, rfl⟩
            clear hsum hsl
            by_cases hcs : ((cs : Nat) : Int) = wv
            · have k1 : (wv == ((cs : Nat) : Int)) = true := by simp [hcs]
              have k2 : (wv != ((cs : Nat) : Int)) = false := by simp [hcs]
              by_cases ht : lastA (l.map absS) < tg
              · have k3 : ¬ tg ≤ lastA (l.map absS) := by omega
                have hnot := Lib.hid (fun k hk => S10'.out.not_r R10'.out.blk k hk)
                by_cases h16 : l.length < 16
                · have k4 : ((l.length : Int) == 16) = false := by simp; omega
                  have k5 : ¬ (l.length : Int) = 16 := by omega
                  have hE : Hid (oneE (lastA (l.map absS)) l.length (B.drop at_) = 0) := Lib.hid (by rw [g12'.out, if_pos hcs, if_pos ht, if_pos h16])
                  have hG2 : Hid (getG f (l.map absS ++ [(tg, codes sx)]) p3 B = getAll B) := Lib.hid (by
                    rw [← hG.out]
                    conv => rhs; rw [getG]
                    rw [if_pos hlt, if_pos (by rw [List.length_map]; exact hE.out), g123.out.1, g123.out.2.1, g123.out.2.2])
                  obtain ⟨f', rfl⟩ : ∃ f', f = f' + 1 := ⟨f - 1, by omega⟩
                  obtain ⟨W4, hW4⟩ : ∃ W4, W4 = w10.alloc (.cells #[.int .i64 tg, .slice (some ⟨w7.heap.size, 0, none⟩) sx.size c8] 39) := ⟨_, rfl⟩
                  have b4 : Below w10.heap.size w10 W4 := by rw [hW4]; exact below_box _ _ _
                  have ka0 : W4.cell? ((⟨w10.heap.size, 0, none⟩ : Addr).add 0) = some (.int .i64 tg) := by rw [hW4, add_plain']; simp [go_sem]
                  have ka1 : W4.cell? ((⟨w10.heap.size, 0, none⟩ : Addr).add 1) = some (.slice (some ⟨w7.heap.size, 0, none⟩) sx.size c8) := by rw [hW4, add_plain']; simp [go_sem]
                  have X4 := (X10'.out.belowE (.of b4)).mono b4.size
                  have hcl := codes_length sx
                  have hsc : ScOK W4.heap.size W4 ⟨tg, some ⟨w7.heap.size, 0, none⟩, sx.size, c8, codes sx⟩ := by
                    refine ⟨?_, hcl.symm, hcap8, ?_, codes_bs _, X4.sees⟩
                    · simp [Lit.wf, IntKind.min, IntKind.max, IntKind.signed, IntKind.bits]; omega
                    · show sx.size ≤ maxLen
                      unfold maxLen; omega
                  have hse4 : ∀ k, (Value.slice al l.length cl).ownBlock = some k → SeesE [k] .u8 W4.heap.size W4 (some ⟨w7.heap.size, 0, none⟩) (codes sx) := by
                    intro k hk
                    have hkw := own5.out k hk
                    rcases X4.sees with h | ⟨b, off, ha, hBB, hc⟩
                    · exact .inl h
                    · have hbg : b = w7.heap.size := by injection ha with ha; injection ha with ha; exact ha.symm
                      exact .inr ⟨b, off, ha, hBB, by simp; omega, hc⟩
                  have hrow4' := Lib.hid (S10'.out.below b4)
                  have hBw4' := Lib.hid (B10'.out.trans (b4.mono B10'.out.size))
                  have hR4 := Lib.hid (R10'.out.blk.below b4 R10'.out.blk.lt)
                  have hA4' := Lib.hid (A10'.out.below (b4.mono (Nat.le_of_lt R10'.out.blk.lt)))
                  have hH4 := Lib.hid (H10'.out.below b4 H10'.out.lt)
                  have hsc' := Lib.hid hsc
                  have hse4' := Lib.hid hse4
                  have hW4' := Lib.hid hW4
                  have ka0' := Lib.hid ka0
                  have ka1' := Lib.hid ka1
                  have own5' := own5
                  have lcl : l.length ≤ 100000 := by omega
                  clear hsc hse4 hW4 ka0 ka1 b4 X4 hcl S10' R10' H10' A10' B10' X10' hfin hstep RO' g12' g123 hE hs1' hsz hcap8
                  generalize codes sx = cd at *
                  generalize sx.size = sz at *
                  go_wp2_with (at_builtin; rw [← hW4'.out]; refine wpList_append_sec2 (w0 := w) rfl (.tmp 99) (.tmp 101) rfl _ l ⟨tg, some ⟨w7.heap.size, 0, none⟩, sz, c8, cd⟩ hrow4'.out hBw4'.out ⟨w10.heap.size, 0, none⟩ 1 ka0'.out ka1'.out hsc'.out hse4'.out rfl rfl lcl ?_; intro v13 w13 r13 b13 n13 u13; have r13' := Lib.hid r13; have b13' := Lib.hid b13; have hg13 := (Holds.cell (show Holds w13 g _ _ from (n13 g hH4.out.lt (fun hk => by have := own5'.out g hk; omega)).trans hH4.out) 0); simp at hg13; have hr13 : Hid (Holds w13 r 57 #[.slice a3 B.length c3, .int .i64 p3, .int .i64 0]) := Lib.hid ((n13 r hR4.out.lt (fun hk => hnot.out r hk rfl)).trans hR4.out); have ha13 : Hid (Sees .u8 r w13 a3 B) := Lib.hid (sees_same hA4'.out (fun j hj => n13 j (by have := hR4.out.lt; omega) (fun hk => by have := hup.out j hk; omega))); have hu13 : Hid (∀ k, v13.ownBlock = some k → r < k) := Lib.hid (fun k hk => by rcases u13 k hk with h | h; exact hup.out k h; have := hR4.out.lt; omega); clear r13 b13 n13 u13)
                  have hms := (mkRf hr13.out ha13.out hBb.out (by unfold maxLen; omega) hcap3 hp3).rdAt
                  exact ⟨⟨p3, f', l ++ [⟨tg, some ⟨w7.heap.size, 0, none⟩, sz, c8, cd⟩], hp3, by simp [lastA, absS], r13', hu13, hr13, ha13, Lib.hid (by simpa [absS] using hG2.out), by omega, by simp; omega, b13'⟩, by rw [hms, hmeas]; omega⟩
                · have k4 : ((l.length : Int) == 16) = true := by simp; omega
                  have k5 : (l.length : Int) = 16 := by omega
                  have hG2 := Lib.hid (hstep.out 3 (by decide) (by rw [g12'.out, if_pos hcs, if_pos ht, if_neg h16]))
                  clear hstep g12'
                  go_wp2
                  go_ret3
                  exact hfin.out _ _ hG2.out (Below.refl _ _)
              · have k3 : tg ≤ lastA (l.map absS) := by omega
                have hG2 := Lib.hid (hstep.out 41 (by decide) (by rw [g12'.out, if_pos hcs, if_neg ht]))
                clear hstep g12'
                go_wp2
                go_ret3
                exact hfin.out _ _ hG2.out (Below.refl _ _)
            · have k1 : (wv == ((cs : Nat) : Int)) = false := by simp; omega
              have k2 : (wv != ((cs : Nat) : Int)) = true := by simp; omega
              have hG2 := Lib.hid (hstep.out 42 (by decide) (by rw [g12'.out, if_neg hcs]))
              clear hstep g12'
              go_wp2
              go_ret3
              exact hfin.out _ _ hG2.out (Below.refl _ _)
          · have e31 : (e3 == 0) = false := by simpa using h30
            have e32 : (e3 != 0) = true := by simpa using h30
            have hG2 := Lib.hid (hstep.out e3 h30 (RO'.out.bad h30))
            go_wp2
            go_quiet (fail)
            go_wp2
            go_ret3
            exact hfin.out _ _ hG2.out (Below.drewN (Below.refl _ _) nq)
        · obtain ⟨al, cl, hv, -, hcl, -, hsec⟩ := secs_own hrow.out.1 (fun s hs => (hrow.out.2 s hs).1) (Nat.le_refl _)
          injection hv with q1 q2 q3
          subst q1
          subst q3
          have hfin : Hid (GetS (getAll B) w (.returned (.tuple #[.slice al l.length cl, .int .i64 (B.length : Nat), .int .i64 0])) wr) := Lib.hid (by
            have : getAll B = (l.map absS, B.length, 0) := by rw [← hG.out, getG, if_neg (by omega)]
            rw [this]
            exact ⟨hB2.out, al, cl, l, rfl, rfl, hcl, hl16, hsec⟩)
          clear hrow hsec hcl hG
          go_wp2
          go_ret3
          exact hfin.out
end Go.Proofs.Ytnjdgnlgdokddaa
