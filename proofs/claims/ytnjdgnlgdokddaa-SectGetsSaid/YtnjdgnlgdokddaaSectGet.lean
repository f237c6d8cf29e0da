/- sect.Get. -/
import Derived.Test.YtnjdgnlgdokddaaSectOneL
namespace Go.Proofs.Ytnjdgnlgdokddaa
open Go.RowKit
set_option linter.unusedVariables false
set_option linter.unusedSimpArgs false

def headOk (B : List Int) (k : Nat) : Bool := decide (k < B.length) && (B.getD k 0 == headL.getD k 0)
def headBad (B : List Int) : Option Nat :=
  if headOk B 0 = false then some 0 else if headOk B 1 = false then some 1 else if headOk B 2 = false then some 2 else if headOk B 3 = false then some 3 else if headOk B 4 = false then some 4 else none
theorem head_some {B : List Int} {k : Nat} (hk : k < 5) (h : ∀ j, j < k → headOk B j = true) (h2 : headOk B k = false) : headBad B = some k := by
  obtain rfl | rfl | rfl | rfl | rfl : k = 0 ∨ k = 1 ∨ k = 2 ∨ k = 3 ∨ k = 4 := by omega
  · simp [headBad, h2]
  · simp [headBad, h2, h 0 (by omega)]
  · simp [headBad, h2, h 0 (by omega), h 1 (by omega)]
  · simp [headBad, h2, h 0 (by omega), h 1 (by omega), h 2 (by omega)]
  · simp [headBad, h2, h 0 (by omega), h 1 (by omega), h 2 (by omega), h 3 (by omega)]
theorem head_none {B : List Int} (h : ∀ j, j < 5 → headOk B j = true) : headBad B = none := by
  simp [headBad, h 0 (by omega), h 1 (by omega), h 2 (by omega), h 3 (by omega), h 4 (by omega)]
def lastA (acc : List (Int × List Int)) : Int := (acc.getLast?.getD (0, [])).1
def getG : Nat → List (Int × List Int) → Nat → List Int → List (Int × List Int) × Nat × Int
  | 0, acc, at_, B => ([], at_, -1)
  | f + 1, acc, at_, B => if at_ < B.length then (if oneE (lastA acc) acc.length (B.drop at_) = 0 then getG f (acc ++ [((oneT (B.drop at_)).1, codes (oneX (B.drop at_)).1)]) (at_ + (oneW (B.drop at_)).2.1) B else ([], at_, oneE (lastA acc) acc.length (B.drop at_))) else (acc, B.length, 0)
def getAll (B : List Int) : List (Int × List Int) × Nat × Int := match headBad B with
  | some i => ([], i, 40)
  | none => getG (B.length + 1) [] 5 B
theorem last_abs (l : List Sc) : lastTag l = lastA (l.map absS) := by
  rcases List.eq_nil_or_concat l with rfl | ⟨l, s, rfl⟩
  · rfl
  · simp [lastTag, lastA, absS]
theorem textO_size {bs : List Int} (m : Int) (p : Nat) (e : Int) : (textO m bs p e).1.size ≤ bs.length := by
  unfold textO
  split
  · split
    · rw [strOfNums_size]; simp; omega
    · simp [ByteArray.size]
  · simp [ByteArray.size]
theorem byteO_val {bs : List Int} (h : Bs bs) (p : Nat) : 0 ≤ (byteO bs p 0).1 ∧ (byteO bs p 0).1 ≤ 255 := by
  unfold byteO
  rw [if_pos rfl]
  split
  · exact h.at (by omega)
  · exact ⟨by simp, by simp⟩
theorem oneE_ok {last : Int} {cnt : Nat} {B : List Int} (h : oneE last cnt B = 0) : 4 ≤ (oneW B).2.1 ∧ (oneW B).2.1 ≤ B.length ∧ cnt < 16 := by
  unfold oneE at h
  by_cases h1 : (oneT B).2.2 ≠ 0
  · rw [if_pos h1] at h; exact absurd h h1
  rw [if_neg h1] at h
  by_cases h2 : (oneX B).2.2 ≠ 0
  · rw [if_pos h2] at h; exact absurd h h2
  rw [if_neg h2] at h
  by_cases h3 : (oneW B).2.2 ≠ 0
  · rw [if_pos h3] at h; exact absurd h h3
  rw [if_neg h3] at h
  split at h
  · split at h
    · split at h
      · rename_i h6
        refine ⟨?_, ?_, h6⟩
        · unfold oneW wordO at h3 ⊢
          rw [if_pos rfl] at h3 ⊢
          split
          · simp
          · rename_i hh; rw [if_neg hh] at h3; simp at h3
        · have hp1 : (oneT B).2.1 ≤ (oneBs B).length := byteO_at (bs := oneBs B) (Nat.zero_le _) 0
          have hp2 : (oneX B).2.1 ≤ (oneBs B).length := textO_at (bs := oneBs B) hp1 1048576 0
          have hp3 : (oneW B).2.1 ≤ (oneBs B).length := wordO_at (bs := oneBs B) hp2 0
          have : (oneBs B).length ≤ B.length := by simp [oneBs]; omega
          omega
      · omega
    · omega
  · omega

/-- A row of sections of one's own; no body lies in it. -/
def SRow (w0 w : World) (v : Value) (l : List Sc) : Prop :=
  w.ownsRow w0.heap.size 39 2 v l.length (scells l) ∧ ∀ s ∈ l, ScOK w.heap.size w s ∧ ∀ k, v.ownBlock = some k → SeesE [k] .u8 w.heap.size w s.a s.b
theorem SRow.below {w0 w w' : World} {v : Value} {l : List Sc} (h : SRow w0 w v l) (hb : Below w.heap.size w w') : SRow w0 w' v l :=
  ⟨own_below h.1 hb, fun s hs => ⟨((h.2 s hs).1.below hb).mono hb.size, fun k hk => (((h.2 s hs).2 k hk).belowE (.of hb)).mono hb.size⟩⟩
theorem scells_add (l : List Sc) (s : Sc) : scells (l ++ [s]) = scells l ++ [.int .i64 s.tag, .slice s.a s.m s.c] := by simp [scells]
theorem infoSect : (Try.prog.info? 39).map (fun i => (i.zero, i.size, i.bytes)) = some (some (.agg #[.int .i64 0, .slice none 0 0]), 2, 32) := by kernel_rfl
theorem wpList_append_sec {w0 w : World} {ops : Array Oper} {rest : List Oper} {o : Oper} {a : Act} {Q : Exit → Act → World → Prop}
    (hg : o.guard = none) (s x : Operand) (hop : o.op = Op.call { callee := Callee.builtin Builtin.append, args := #[s, x], argTypes := #[22, 22] })
    (v : Value) (l : List Sc) (sc : Sc) (hrow : SRow w0 w v l) (hb : Below w0.heap.size w0 w) (ad : Addr) (c : Nat) (e0 : w.cell? (ad.add 0) = some (.int .i64 sc.tag)) (e1 : w.cell? (ad.add 1) = some (.slice sc.a sc.m sc.c))
    (hsc : ScOK w.heap.size w sc) (hse : ∀ k, v.ownBlock = some k → SeesE [k] .u8 w.heap.size w sc.a sc.b)
    (hsv : a.eval s = v) (hx : a.eval x = .slice (some ad) 1 c) (hn : l.length ≤ 100000)
    (hK : ∀ v' w', SRow w0 w' v' (l ++ [sc]) → Below w0.heap.size w0 w' → wpList Try.prog ops Q rest (a.put o.dst v') w') : wpList Try.prog ops Q (o :: rest) a w := by
  obtain ⟨i0, hi, hz0, hz1, hz2⟩ := info_parts infoSect
  obtain ⟨v', w', hrun, h1, h2, -, h3⟩ := run_append_own_at (P := Try.prog) w w0.heap.size 22 o.type 39 i0 _ 2 32 Try.underlying22 hi hz0 hz1 hz2 rfl (by omega) v l.length (scells l) hrow.1 ad 1 c [.int .i64 sc.tag, .slice sc.a sc.m sc.c] rfl
    (by
      intro j u hj
      match j, hj with
      | 0, hj => simp at hj; subst hj; exact e0
      | 1, hj => simp at hj; subst hj; exact e1) (by intro u hu; simp at hu; rcases hu with rfl | rfl <;> rfl) (by simp [maxLen]; omega) (by omega) hb.size
  refine wpList_plain hg fun K hK' => ?_
  unfold Oper.wp
  simp [execOp, hop, resolve, invoke, builtin, hsv, hx, hrun, Result.andThen]
  refine hK' _ _ (hK v' w' ⟨by rw [List.length_append, scells_add]; exact h1, ?_⟩ (hb.grown h2 hb.size fun k hk => (hrow.1.lt k hk).1))
  have key : ∀ s : Sc, ScOK w.heap.size w s → (∀ k, v.ownBlock = some k → SeesE [k] .u8 w.heap.size w s.a s.b) → ScOK w'.heap.size w' s ∧ ∀ k, v'.ownBlock = some k → SeesE [k] .u8 w'.heap.size w' s.a s.b := by
    intro s ok hs
    have hall : ∀ X : List Nat, (∀ y ∈ X, v.ownBlock = some y ∨ w.heap.size ≤ y) → SeesE X .u8 w'.heap.size w' s.a s.b := by
      intro X hX
      rcases ok.2.2.2.2.2 with h | ⟨b, off, ha, hB, hc⟩
      · exact .inl h
      · by_cases h0 : s.b = []
        · exact .inl h0
        have hbne : v.ownBlock ≠ some b := by
          intro e
          rcases hs b e with h | ⟨b2, off2, ha2, hB2, hx2, hc2⟩
          · exact h0 h
          · rw [ha] at ha2
            injection ha2 with ha2
            injection ha2 with hb2
            subst hb2
            simp at hx2
        refine .inr ⟨b, off, ha, Nat.lt_of_lt_of_le hB h2.size, fun hm => ?_, fun i hi => ?_⟩
        · rcases hX b hm with h | h
          · exact hbne h
          · omega
        · rw [← hc i hi]
          exact World.cell?_of_block (a := ⟨b, off + i, none⟩) (h := h2.block b hB (fun e => hbne e.symm))
    refine ⟨⟨ok.1, ok.2.1, ok.2.2.1, ok.2.2.2.1, ok.2.2.2.2.1, (hall [] (by simp)).sees⟩, fun k hk => hall [k] ?_⟩
    intro y hy
    simp at hy
    subst hy
    rcases h3 with h | h
    · left; rw [← h]; exact hk
    · right; rw [h] at hk; injection hk with hk; omega
  intro s hs
  rcases List.mem_append.1 hs with hs | hs
  · exact key s (hrow.2 s hs).1 (hrow.2 s hs).2
  · simp at hs
    subst hs
    exact key _ hsc hse
end Go.Proofs.Ytnjdgnlgdokddaa
