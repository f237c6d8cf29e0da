/- Tokens, the program's: its loop. -/
import Derived.Test.YtplgfghffeijcaaLexTokens
namespace Go.Proofs.Ytplgfghffeijcaa
open Go.RowKit
set_option linter.unusedVariables false
set_option linter.unusedSimpArgs false

theorem round_is (m : Md) (s : Sg) (b : ByteArray) (pos : Nat) (hp : pos < b.size) :
    (∀ u, takeS m { s with op := true } (Utf8.decode b pos).1 = (none, u) → stepS m s ((codes b).getD pos 0) = .inl (u.line, u.col)) ∧
    (∀ m' u, takeS m { s with op := true } (Utf8.decode b pos).1 = (some m', u) → ((Utf8.decode b pos).1 : Int) = (codes b).getD pos 0 ∧ (Utf8.decode b pos).2 = 1 ∧ stepS m s ((codes b).getD pos 0) = .inr (m', u.next ((codes b).getD pos 0))) := by
  rcases rune_at b pos hp with ⟨c, hc, hd, hb⟩ | ⟨h1, h2⟩
  · rw [hd, hb]
    refine ⟨fun u hu => ?_, fun m' u hu => ⟨rfl, rfl, ?_⟩⟩
    · unfold stepS; simp only at hu; rw [hu]
    · unfold stepS; simp only at hu; rw [hu]
  · rw [take_high m _ _ (by omega)]
    refine ⟨fun u hu => ?_, fun m' u hu => by cases hu⟩
    injection hu with _ hu
    unfold stepS
    rw [take_high m _ _ (by omega)]
    subst hu
    rfl
theorem lp_start (w : World) (b : ByteArray) : Lp w (((w.alloc (.cells #[.slice none 0 0, .int .i64 0, .int .i64 0, .int .i64 0, .string ⟨#[]⟩, .slice none 0 0, .int .i64 1, .int .i64 1, .bool false] 42)).alloc (.cells #[fnV (some .beg)] 45)).iter b 0) b 0 [w.heap.size] .beg sg0 := by
  have h1 := Holds.new w 42 #[.slice none 0 0, .int .i64 0, .int .i64 0, .int .i64 0, .string ⟨#[]⟩, .slice none 0 0, .int .i64 1, .int .i64 1, .bool false]
  have h2 := Holds.new (w.alloc (.cells #[.slice none 0 0, .int .i64 0, .int .i64 0, .int .i64 0, .string ⟨#[]⟩, .slice none 0 0, .int .i64 1, .int .i64 1, .bool false] 42)) 45 #[fnV (some .beg)]
  have b1 := lit_below w (.cells #[.slice none 0 0, .int .i64 0, .int .i64 0, .int .i64 0, .string ⟨#[]⟩, .slice none 0 0, .int .i64 1, .int .i64 1, .bool false] 42)
  have b2 := lit_below (w.alloc (.cells #[.slice none 0 0, .int .i64 0, .int .i64 0, .int .i64 0, .string ⟨#[]⟩, .slice none 0 0, .int .i64 1, .int .i64 1, .bool false] 42)) (.cells #[fnV (some .beg)] 45)
  have s1 : (w.alloc (.cells #[.slice none 0 0, .int .i64 0, .int .i64 0, .int .i64 0, .string ⟨#[]⟩, .slice none 0 0, .int .i64 1, .int .i64 1, .bool false] 42)).heap.size = w.heap.size + 1 := by simp
  generalize w.alloc (.cells #[.slice none 0 0, .int .i64 0, .int .i64 0, .int .i64 0, .string ⟨#[]⟩, .slice none 0 0, .int .i64 1, .int .i64 1, .bool false] 42) = W1 at *
  have s2 : (W1.alloc (.cells #[fnV (some .beg)] 45)).heap.size = W1.heap.size + 1 := by simp
  generalize W1.alloc (.cells #[fnV (some .beg)] 45) = W2 at *
  have b3 : Below W2.heap.size W2 (W2.iter b 0) := lit_below W2 _
  have hi := World.iter_heap W2 b 0
  have bw : Below w.heap.size w (W2.iter b 0) := (b1.trans (b2.mono b1.size)).trans (b3.mono (Nat.le_trans b1.size b2.size))
  have h3 := ((h1.below b2 h1.lt).below b3 (h1.below b2 h1.lt).lt)
  rw [s1] at h2
  refine ⟨bw, by rw [s2, s1] at hi; exact hi, h2.below b3 h2.lt, ⟨.slice none 0 0, .slice none 0 0, ⟨h3, own_nil _ _ _ _, own_nil _ _ _ _, by simp, by simp [Value.ownBlock], by simp [Value.ownBlock], by simp [Value.ownBlock], fun x hx => by simp at hx; subst hx; exact h3.lt⟩⟩, fun x hx => by simp at hx; omega, rfl, small0, Nat.zero_le _⟩
theorem iterPos_is {w : World} {k : Nat} {s : ByteArray} {p : Nat} (h : w.heap[k]? = some (.stringIter s p)) : w.iterPos k = p := by simp [World.iterPos, h]
/-- Behind 'next'. -/
theorem lp_next {w wr : World} {b : ByteArray} {pos : Nat} {F : List Nat} {m : Md} {s : Sg} (h : Lp w wr b pos F m s) (p' : Nat) :
    Below w.heap.size w (wr.iterAt (w.heap.size + 2) b p') ∧ (wr.iterAt (w.heap.size + 2) b p').heap[w.heap.size + 2]? = some (.stringIter b p') ∧ Holds (wr.iterAt (w.heap.size + 2) b p') (w.heap.size + 1) 45 #[fnV (some m)] ∧ SkE (wr.iterAt (w.heap.size + 2) b p') w.heap.size F s := by
  have hE : BelowE [w.heap.size + 2] wr.heap.size wr (wr.iterAt (w.heap.size + 2) b p') := ⟨rfl, rfl, rfl, by rw [Lib.iterAt_size]; exact Nat.le_refl _, fun k _ hk => Lib.iterAt_other _ _ _ _ _ (by simpa using hk)⟩
  exact ⟨Lib.below_iterAt h.bl (by omega) _ _, Lib.iterAt_heap _ _ _ _ _ h.it, h.st.belowE hE h.st.lt (by simp), h.sk.belowE hE (fun x hx => by have := (h.F0 x hx).2.2; simpa using this)⟩
theorem cell_far {w : World} {g r i j : Nat} (h : g ≠ r) (v : Value) : (w.setCell ⟨g, i, none⟩ v).cell? ⟨r, j, none⟩ = w.cell? ⟨r, j, none⟩ := World.cell?_setCell_far w ⟨g, i, none⟩ ⟨r, j, none⟩ v h
/-- Behind a round: the next one's head. -/
theorem lp_more {w w2 : World} {b : ByteArray} {pos : Nat} {F : List Nat} {v : Value} {m' : Md} {u : Sg} (bl : Below w.heap.size w w2) (it : w2.heap[w.heap.size + 2]? = some (.stringIter b (pos + 1))) (st : Holds w2 (w.heap.size + 1) 45 #[v]) (sk : SkE w2 w.heap.size F u)
    (hF : ∀ x ∈ F, w.heap.size ≤ x ∧ x ≠ w.heap.size + 1 ∧ x ≠ w.heap.size + 2) (c : Int) (run : runS .beg sg0 ((codes b).take (pos + 1)) = .inr (m', u.next c)) (sm : (u.next c).small (pos + 1)) (le : pos + 1 ≤ b.size) :
    (c ≠ 10 → Lp w ((w2.setCell ⟨w.heap.size + 1, 0, none⟩ (fnV (some m'))).setCell ⟨w.heap.size, 7, none⟩ (.int .i64 (u.col + 1))) b (pos + 1) F m' (u.next c)) ∧
    (c = 10 → Lp w (((((w2.setCell ⟨w.heap.size + 1, 0, none⟩ (fnV (some m'))).setCell ⟨w.heap.size, 7, none⟩ (.int .i64 (u.col + 1))).setCell ⟨w.heap.size, 6, none⟩ (.int .i64 (u.line + 1))).setCell ⟨w.heap.size, 7, none⟩ (.int .i64 1)).setCell ⟨w.heap.size, 8, none⟩ (.bool false)) b (pos + 1) F m' (u.next c)) := by
  have hE : BelowE [w.heap.size + 1] w2.heap.size w2 (w2.setCell ⟨w.heap.size + 1, 0, none⟩ (fnV (some m'))) := (BelowE.refl _ _ _).setIn (p := ⟨w.heap.size + 1, 0, none⟩) (by simp) _
  have k3 : SkE (w2.setCell ⟨w.heap.size + 1, 0, none⟩ (fnV (some m'))) w.heap.size F u := sk.belowE hE (fun x hx => by have := (hF x hx).2.1; simpa using this)
  have s3 : Holds (w2.setCell ⟨w.heap.size + 1, 0, none⟩ (fnV (some m'))) (w.heap.size + 1) 45 #[fnV (some m')] := by simpa using st.set 0 (fnV (some m'))
  have b3 : Below w.heap.size w (w2.setCell ⟨w.heap.size + 1, 0, none⟩ (fnV (some m'))) := bl.setCell (p := ⟨w.heap.size + 1, 0, none⟩) (by show _ ≤ _ + 1; omega) _
  have hlt : w.heap.size + 2 < w2.heap.size := (Array.getElem?_eq_some_iff.1 it).1
  have i3 : (w2.setCell ⟨w.heap.size + 1, 0, none⟩ (fnV (some m'))).heap[w.heap.size + 2]? = some (.stringIter b (pos + 1)) := (hE.block _ hlt (by simp)).trans it
  obtain ⟨-, -, -, -, -, h7, -⟩ := sk_set k3
  obtain ⟨k4, t4⟩ := h7 (u.col + 1)
  obtain ⟨b4, i4, s4, f4⟩ := lp_keep b3 i3 s3 hF t4
  refine ⟨fun hc => ⟨b4, i4, s4, ?_, hF, run, sm, le⟩, fun hc => ?_⟩
  · unfold Sg.next; rw [if_neg hc]; exact k4
  · obtain ⟨-, -, -, -, -, -, h5⟩ := sk_set k4
    obtain ⟨k5, t5⟩ := h5 (u.line + 1)
    obtain ⟨b5, i5, s5, f5⟩ := lp_keep b4 i4 s4 hF t5
    refine ⟨b5, i5, s5, ?_, hF, run, sm, le⟩
    unfold Sg.next; rw [if_pos hc]; exact k5
theorem fnV_func (m : Md) : ∃ f, fnV (some m) = .func (.func f) #[] #[] := by cases m <;> exact ⟨_, rfl⟩
theorem run_equalIn_func_nil {P : Program} (w : World) (d : Nat) (t : TypeId) {ps rs : Array TypeId} {vd : Bool} (fn : Fn) (fi ca : Array Value) (h : P.underlying t = some (.func ps rs vd)) : (Op.equalIn (d + 1) t (.func fn fi ca) .nilFunc).run P w = .ok false w := by
  simp [Op.equalIn, run_underlying h]
theorem run_equalIn_nil_func {P : Program} (w : World) (d : Nat) (t : TypeId) {ps rs : Array TypeId} {vd : Bool} (h : P.underlying t = some (.func ps rs vd)) : (Op.equalIn (d + 1) t .nilFunc .nilFunc).run P w = .ok true w := by
  simp [Op.equalIn, run_underlying h]
theorem run_eql_func_nil {P : Program} (w : World) (t : TypeId) {ps rs : Array TypeId} {vd : Bool} (fn : Fn) (fi ca : Array Value) (h : P.underlying t = some (.func ps rs vd)) : (binOp .eql t (.func fn fi ca) .nilFunc).run P w = .ok (.bool false) w := by
  simp only [binOp]
  simp [Op.equal, Op.maxDepth, run_equalIn_func_nil w 9999 t fn fi ca h]
theorem run_eql_nil_func {P : Program} (w : World) (t : TypeId) {ps rs : Array TypeId} {vd : Bool} (h : P.underlying t = some (.func ps rs vd)) : (binOp .eql t .nilFunc .nilFunc).run P w = .ok (.bool true) w := by
  simp only [binOp]
  simp [Op.equal, Op.maxDepth, run_equalIn_nil_func w 9999 t h]
end Go.Proofs.Ytplgfghffeijcaa
