/- The document's token: its walk. -/
import Derived.Test.YtplgfghffeijcaaLexRefMath
import Derived.Test.YtplgfghffeijcaaLexCut
import Derived.Test.YtplgfghffeijcaaByteRows
namespace Go.Proofs.Ytplgfghffeijcaa
open Go.RowKit
set_option linter.unusedVariables false
set_option linter.unusedSimpArgs false

def TokRE (r : Int × List Int × Nat × Bool) (w : World) (e : Ending) (w' : World) : Prop := e = .returned (.tuple #[.agg #[.int .i64 r.1, .int .i64 0, .int .i64 0, .string (strOfNums r.2.1)], .int .i64 (r.2.2.1 : Int), .bool r.2.2.2]) ∧ Below w.heap.size w w'
theorem info_tok4 : (Try.prog.info? 36).map (·.size) = some 4 := by kernel_rfl
theorem tok_res3 {fn : Func} {p q r : Tmp} (h : fn.results = #[.cell p 36, .tmp q, .tmp r]) (tmps : Array Value) (w : World) (g : Nat) (x0 x1 x2 x3 u v : Value)
    (hp : tmps.getD p undef = .pointer (some ⟨g, 0, none⟩)) (hq : tmps.getD q undef = u) (hr : tmps.getD r undef = v) (hg : Holds w g 36 #[x0, x1, x2, x3]) : (results fn tmps).run Try.prog w = .ok (.tuple #[.agg #[x0, x1, x2, x3], u, v]) w := by
  have hp' : tmps[p]?.getD undef = .pointer (some ⟨g, 0, none⟩) := by simpa using hp
  have hq' : tmps[q]?.getD undef = u := by simpa using hq
  have hr' : tmps[r]?.getD undef = v := by simpa using hr
  simp [results, h, hp', hq', hr', asAddr, run_loadVar_row w g 36 36 #[x0, x1, x2, x3] (0, 0) _ hg Try.underlying36 rfl (by rw [info_tok4]; rfl)]
theorem tok_ret3 {Q : Ending → World → Prop} {w : World} {g : Nat} {x0 x1 x2 x3 u v : Value} (hg : Holds w g 36 #[x0, x1, x2, x3]) (hQ : Q (.returned (.tuple #[.agg #[x0, x1, x2, x3], u, v])) w) (act : Act) (f : Func) (n m k : Nat) (hf : f.results = #[.cell n 36, .tmp m, .tmp k]) (ha : act.tmps.getD n undef = .pointer (some ⟨g, 0, none⟩)) (hm : act.tmps.getD m undef = u) (hk : act.tmps.getD k undef = v) (hd : act.defers = []) :
    bodyPost Try.prog f Q Exit.ret act w := bodyPost_ret (tok_res3 hf _ _ g x0 x1 x2 x3 u v ha hm hk hg) hd hQ
theorem tok_put {w : World} {g : Nat} {a b c d : Value} (h : Holds w g 36 #[a, b, c, d]) (x y z u : Value) : Holds ((((w.setCell ⟨g, 0, none⟩ x).setCell ⟨g, 1, none⟩ y).setCell ⟨g, 2, none⟩ z).setCell ⟨g, 3, none⟩ u) g 36 #[x, y, z, u] := by
  have h1 := (((h.set 0 x).set 1 y).set 2 z).set 3 u
  simpa using h1
theorem tok_back {w wr : World} (h : Holds wr w.heap.size 36 #[.int .i64 0, .int .i64 0, .int .i64 0, .string ⟨#[]⟩]) (hb : Below w.heap.size w wr) (k : Int) (T : List Int) (j : Nat) (ok : Bool) (r : Int × List Int × Nat × Bool) (hr : r = (k, T, j, ok)) :
    Holds ((((wr.setCell ⟨w.heap.size, 0, none⟩ (.int .i64 k)).setCell ⟨w.heap.size, 1, none⟩ (.int .i64 0)).setCell ⟨w.heap.size, 2, none⟩ (.int .i64 0)).setCell ⟨w.heap.size, 3, none⟩ (.string (strOfNums T))) w.heap.size 36 #[.int .i64 k, .int .i64 0, .int .i64 0, .string (strOfNums T)] ∧
    TokRE r w (.returned (.tuple #[.agg #[.int .i64 k, .int .i64 0, .int .i64 0, .string (strOfNums T)], .int .i64 (j : Int), .bool ok])) ((((wr.setCell ⟨w.heap.size, 0, none⟩ (.int .i64 k)).setCell ⟨w.heap.size, 1, none⟩ (.int .i64 0)).setCell ⟨w.heap.size, 2, none⟩ (.int .i64 0)).setCell ⟨w.heap.size, 3, none⟩ (.string (strOfNums T))) := by
  subst hr
  refine ⟨tok_put h _ _ _ _, rfl, ?_⟩
  exact (((hb.setCell (p := ⟨w.heap.size, 0, none⟩) (Nat.le_refl _) _).setCell (p := ⟨w.heap.size, 1, none⟩) (Nat.le_refl _) _).setCell (p := ⟨w.heap.size, 2, none⟩) (Nat.le_refl _) _).setCell (p := ⟨w.heap.size, 3, none⟩) (Nat.le_refl _) _
theorem takeWhile_len {f : Int → Bool} {l : List Int} {n : Nat} (hn : n ≤ l.length) (h1 : ∀ t, t < n → f (l.getD t 0) = true) (h2 : n = l.length ∨ f (l.getD n 0) = false) : l.takeWhile f = l.take n := by
  induction l generalizing n with
  | nil => simp
  | cons x r ih =>
    cases n with
    | zero =>
      rcases h2 with h2 | h2
      · simp at h2
      · simp at h2; simp [List.takeWhile_cons, h2]
    | succ n =>
      have hx := h1 0 (by omega)
      simp at hx
      rw [List.takeWhile_cons, hx, if_pos rfl, List.take_succ_cons, ih (by simpa using hn) (fun t ht => by have := h1 (t + 1) (by omega); simpa using this) (by simpa using h2)]
/-- The quoted one. -/
theorem rq_c {b : List Int} {k : Nat} {T : List Int} (hk : k < b.length) : rqL (b.drop k) T k = if b.getD k 0 = 34 then (T, k + 1, true) else if b.getD k 0 = 92 then (if k + 1 = b.length then (T, k + 1, false) else if b.getD (k + 1) 0 = 34 ∨ b.getD (k + 1) 0 = 92 then rqL (b.drop (k + 2)) (T ++ [b.getD (k + 1) 0]) (k + 2) else (T, k + 1, false)) else if prB (b.getD k 0) then rqL (b.drop (k + 1)) (T ++ [b.getD k 0]) (k + 1) else (T, k, false) := by
  rw [drop_at hk]
  conv => lhs; unfold rqL
  by_cases h1 : b.getD k 0 = 34
  · rw [if_pos h1, if_pos h1]
  · rw [if_neg h1, if_neg h1]
    by_cases h2 : b.getD k 0 = 92
    · rw [if_pos h2, if_pos h2]
      by_cases h3 : k + 1 = b.length
      · rw [if_pos h3, h3, List.drop_length]
      · rw [if_neg h3, drop_at (show k + 1 < b.length by omega)]
    · rw [if_neg h2, if_neg h2]
theorem str_snoc (T : List Int) (c : Int) : strOfNums (T ++ [c]) = strOfNums T ++ strOfNums [c] := str_append T [c]
theorem push_tok {w wr : World} {T : List Int} (h0 : Holds wr w.heap.size 36 #[.int .i64 0, .int .i64 0, .int .i64 0, .string ⟨#[]⟩]) (h1 : Holds wr (w.heap.size + 1) 36 #[.int .i64 2, .int .i64 0, .int .i64 0, .string (strOfNums T)]) (hb : Below w.heap.size w wr) (c : Int) (X : ByteArray) (hX : X = strOfNums [c]) :
    Holds ((wr.setCell ⟨w.heap.size + 1, 3, none⟩ (.string (strOfNums T ++ X))).drew) w.heap.size 36 #[.int .i64 0, .int .i64 0, .int .i64 0, .string ⟨#[]⟩] ∧
    Holds ((wr.setCell ⟨w.heap.size + 1, 3, none⟩ (.string (strOfNums T ++ X))).drew) (w.heap.size + 1) 36 #[.int .i64 2, .int .i64 0, .int .i64 0, .string (strOfNums (T ++ [c]))] ∧
    Below w.heap.size w ((wr.setCell ⟨w.heap.size + 1, 3, none⟩ (.string (strOfNums T ++ X))).drew) := by
  subst hX
  refine ⟨(h0.far (p := ⟨w.heap.size + 1, 3, none⟩) (by simp) _).drew, ?_, (hb.setCell (p := ⟨w.heap.size + 1, 3, none⟩) (by simp) _).drew⟩
  have := h1.set 3 (.string (strOfNums T ++ strOfNums [c]))
  rw [str_snoc]
  exact (by simpa using this : Holds (wr.setCell ⟨w.heap.size + 1, 3, none⟩ (.string (strOfNums T ++ strOfNums [c]))) (w.heap.size + 1) 36 #[.int .i64 2, .int .i64 0, .int .i64 0, .string (strOfNums T ++ strOfNums [c])]).drew
set_option maxRecDepth 100000 in
set_option maxHeartbeats 4000000 in
theorem token_quo (s : ByteArray) (hs : s.size ≤ 1048576) (p : Nat) (hp : p < s.size) (hq : (codes s).getD p 0 = 34) (w : World) : Calls Try.prog 20 #[.string s, .int .i64 (p : Int)] w (TokRE (tokenO (codes s) p) w) := by
  have hcl : Hid ((codes s).length = s.size) := Lib.hid (codes_length s)
  have hR : Hid (tokenO (codes s) p = (2, rqL ((codes s).drop (p + 1)) [] (p + 1))) := Lib.hid (by unfold tokenO; rw [if_pos hq])
  have hpi : (p : Int) < (s.size : Int) := by omega
  have hc0 : (((s[p]'hp).toNat : Int) == 34) = true := by rw [codes_at s p hp] at hq; simpa using hq
  have hpl : (p : Int) ≤ 1048576 := by omega
  clear hq
  generalize tokenO (codes s) p = R at *
  go_enter Try.func20, Try.ntmps20
  go_wp2
  go_loopw [8] (fun x wr => ∃ (k : Nat) (T : List Int), p < k ∧ k ≤ s.size ∧ x = .int .i64 k ∧ Hid (R = (2, rqL ((codes s).drop k) T k)) ∧ Hid (T.length ≤ k) ∧ Hid (Holds wr w.heap.size 36 #[.int .i64 0, .int .i64 0, .int .i64 0, .string ⟨#[]⟩]) ∧ Hid (Holds wr (w.heap.size + 1) 36 #[.int .i64 2, .int .i64 0, .int .i64 0, .string (strOfNums T)]) ∧ Hid (Below w.heap.size w wr)) (fun x _ => s.size - (intOf x).toNat)
  case atStart =>
    refine ⟨p + 1, [], by omega, by omega, by go_num, hR, Lib.hid (by simp), Lib.hid ((Holds.new w _ _).alloc _), Lib.hid ?_, Lib.hid ((lit_below w _).trans ((lit_below _ _).mono (by simp)))⟩
    have := Holds.new (w.alloc (.cells #[.int .i64 0, .int .i64 0, .int .i64 0, .string ⟨#[]⟩] 36)) 36 #[.int .i64 2, .int .i64 0, .int .i64 0, .string ⟨#[]⟩]
    rw [show (w.alloc (.cells #[.int .i64 0, .int .i64 0, .int .i64 0, .string ⟨#[]⟩] 36)).heap.size = w.heap.size + 1 by simp] at this
    exact this
  case round =>
    obtain ⟨k, T, hpk, hk, rfl, hr, hTl, h0, h1, hb⟩ := hrel
    have a0 := h0.out.cell 0
    have a1 := h0.out.cell 1
    have a2 := h0.out.cell 2
    have a3 := h0.out.cell 3
    have f0 := h0.out.free 0
    have f1 := h0.out.free 1
    have f2 := h0.out.free 2
    have f3 := h0.out.free 3
    have b0 := h1.out.cell 0
    have b1 := h1.out.cell 1
    have b2 := h1.out.cell 2
    have b3 := h1.out.cell 3
    have g3 := h1.out.free 3
    simp at a0 a1 a2 a3 b0 b1 b2 b3
    have hfin := Lib.hid (fun j ok h => tok_back h0.out hb.out 2 T j ok R h)
    by_cases hlt : k < s.size
    · have hki : (k : Int) < (s.size : Int) := by omega
      have hki2 : (k : Int) ≤ 1048576 := by omega
      have hcb : (s[k]'hlt).toNat < 256 := (s[k]'hlt).toNat_lt
      have hce := codes_at s k hlt
      have hst := rq_c (b := codes s) (k := k) (T := T) (by rw [hcl.out]; exact hlt)
      rw [hce, hcl.out] at hst
      by_cases c1 : ((s[k]'hlt).toNat : Int) = 34
      · have e1 : (((s[k]'hlt).toNat : Int) == 34) = true := by simpa using c1
        rw [if_pos c1] at hst
        obtain ⟨z1, z2⟩ := hfin.out (k + 1) true (by rw [hr.out, hst])
        have Z1 := Lib.hid z1
        have Z2 := Lib.hid z2
        clear hst hce c1 hfin hr z1 z2
        go_wp2
        exact tok_ret3 Z1.out Z2.out _ _ 4 5 6 rfl rfl (by simp) rfl rfl
      · have e1 : (((s[k]'hlt).toNat : Int) == 34) = false := by simpa using c1
        rw [if_neg c1] at hst
        by_cases c2 : ((s[k]'hlt).toNat : Int) = 92
        · have e2 : (((s[k]'hlt).toNat : Int) == 92) = true := by simpa using c2
          rw [if_pos c2] at hst
          by_cases c3 : k + 1 = s.size
          · have e3 : ((k : Int) + 1 == (s.size : Int)) = true := by simp; omega
            rw [if_pos c3] at hst
            obtain ⟨z1, z2⟩ := hfin.out (k + 1) false (by rw [hr.out, hst])
            have Z1 := Lib.hid z1
            have Z2 := Lib.hid z2
            clear hst hce c1 c2 c3 hfin hr z1 z2
            go_wp2
            exact tok_ret3 Z1.out Z2.out _ _ 4 5 6 rfl rfl (by simp) rfl rfl
          · have e3 : ((k : Int) + 1 == (s.size : Int)) = false := by simp; omega
            have hlt1 : k + 1 < s.size := by omega
            have hki3 : (k : Int) + 1 < (s.size : Int) := by omega
            have hcb1 : (s[k + 1]'hlt1).toNat < 256 := (s[k + 1]'hlt1).toNat_lt
            rw [if_neg c3, codes_at s (k + 1) hlt1] at hst
            have hn1 : ((k : Int) + 1).toNat = k + 1 := by omega
            have hone := fun W => byte_cut s (k + 1) hlt1 W
            simp only [Int.natCast_add, Int.natCast_one] at hone
            by_cases c4 : ((s[k + 1]'hlt1).toNat : Int) = 34 ∨ ((s[k + 1]'hlt1).toNat : Int) = 92
            · rw [if_pos c4] at hst
              have hE := Lib.hid hst
              have e4 : (((s[k + 1]'hlt1).toNat : Int) != 34) = false ∨ (((s[k + 1]'hlt1).toNat : Int) != 34) = true ∧ (((s[k + 1]'hlt1).toNat : Int) != 92) = false := by
                rcases c4 with h | h <;> rw [h] <;> decide
              have hst2 : Hid (R = (2, rqL ((codes s).drop (k + 2)) (T ++ [((s[k + 1]'hlt1).toNat : Int)]) (k + 2))) := Lib.hid (by rw [hr.out, hst])
              have hTl2 : Hid ((T ++ [((s[k + 1]'hlt1).toNat : Int)]).length ≤ k + 2) := Lib.hid (by have := hTl.out; simp; omega)
              obtain ⟨X, hX⟩ : ∃ X, X = strOfNums [((s[k + 1]'hlt1).toNat : Int)] := ⟨_, rfl⟩
              obtain ⟨p1, p2, p3⟩ := push_tok h0.out h1.out hb.out _ X hX
              have P1 := Lib.hid p1
              have P2 := Lib.hid p2
              have P3 := Lib.hid p3
              have hwr : IntKind.i64.wrap ((k : Int) + 1 + 1) = (k : Int) + 1 + 1 := by simp [IntKind.wrap, IntKind.bits, IntKind.signed]; omega
              have hXs : X.size = 1 := by rw [hX, strOfNums_size]; rfl
              have hov1 : ¬ 9223372036854775807 < (strOfNums T).size + 1 := by have := hTl.out; rw [strOfNums_size]; omega
              rw [← hX] at hone
              clear hst hce c1 c2 c3 c4 hfin hE hX p1 p2 p3 h0 h1 hb hr hTl
              rcases e4 with e4 | ⟨e4, e5⟩
              · go_wp2
                refine wp_drawn_on (fun _ => True) (by kernel_rfl) (trivial) (fun hHeld => ?_)
                refine wpAnyH_take (i := 0) (oi := { dst := some 75, op := Go.Op.fieldAddr 36 (Go.Operand.tmp 7) 3, type := 0, pos := "ref.go:49", after := #[], guard := none }) (v := ?v1) rfl (by kernel_rfl) (by kernel_rfl) (by kernel_rfl) (fun _ _ _ h => h) (Or.inl ⟨by kernel_rfl, ?h1⟩) (by assumption) ?r1
                case h1 => (intro w hSw; (try dsimp only at hSw); go_simp; try with_reducible rfl)
                try simp only [Act.put, List.setIfInBounds_toArray, List.set_cons_zero, List.set_cons_succ]
                refine wpAnyH_take (i := 2) (oi := { dst := some 77, op := Go.Op.move (Go.Operand.tmp 0), type := 9, pos := "ref.go:49", after := #[], guard := none }) (v := ?v2) rfl (by kernel_rfl) (by kernel_rfl) (by kernel_rfl) (fun _ _ _ h => h) (Or.inl ⟨by kernel_rfl, ?h2⟩) (by assumption) ?r2
                case h2 => (intro w hSw; (try dsimp only at hSw); go_simp; try with_reducible rfl)
                try simp only [Act.put, List.setIfInBounds_toArray, List.set_cons_zero, List.set_cons_succ]
                refine wpAnyH_take (i := 3) (oi := { dst := some 78, op := Go.Op.move (Go.Operand.tmp 8), type := 3, pos := "ref.go:49", after := #[], guard := none }) (v := ?v3) rfl (by kernel_rfl) (by kernel_rfl) (by kernel_rfl) (fun _ _ _ h => h) (Or.inl ⟨by kernel_rfl, ?h3⟩) (by assumption) ?r3
                case h3 => (intro w hSw; (try dsimp only at hSw); go_simp; try with_reducible rfl)
                try simp only [Act.put, List.setIfInBounds_toArray, List.set_cons_zero, List.set_cons_succ]
                refine wpAnyH_take (i := 4) (oi := { dst := some 79, op := Go.Op.move (Go.Operand.tmp 8), type := 3, pos := "ref.go:49", after := #[], guard := none }) (v := ?v4) rfl (by kernel_rfl) (by kernel_rfl) (by kernel_rfl) (fun _ _ _ h => h) (Or.inl ⟨by kernel_rfl, ?h4⟩) (by assumption) ?r4
                case h4 => (intro w hSw; (try dsimp only at hSw); go_simp; try with_reducible rfl)
                try simp only [Act.put, List.setIfInBounds_toArray, List.set_cons_zero, List.set_cons_succ]
                refine wpAnyH_take (i := 5) (oi := { dst := some 80, op := Go.Op.binOp Go.BinOp.add 3 (Go.Operand.tmp 79) (Go.Operand.const (Go.Value.int Go.IntKind.i64 1)) 3, type := 3, pos := "ref.go:49", after := #[{ on := 4, ground := Go.Ground.data }], guard := none }) (v := ?v5) rfl (by kernel_rfl) (by kernel_rfl) (by kernel_rfl) (fun _ _ _ h => h) (Or.inl ⟨by kernel_rfl, ?h5⟩) (by assumption) ?r5
                case h5 => (intro w hSw; (try dsimp only at hSw); go_simp; try with_reducible rfl)
                try simp only [Act.put, List.setIfInBounds_toArray, List.set_cons_zero, List.set_cons_succ]
                refine wpAnyH_take (i := 6) (oi := { dst := some 81, op := Go.Op.slice 9 (Go.Operand.tmp 77) (some (Go.Operand.tmp 78)) (some (Go.Operand.tmp 80)) none, type := 9, pos := "ref.go:49", after := #[{ on := 2, ground := Go.Ground.data }, { on := 3, ground := Go.Ground.data }, { on := 5, ground := Go.Ground.data }], guard := none }) (v := ?v6) rfl (by kernel_rfl) (by kernel_rfl) (by kernel_rfl) (fun _ _ _ h => h) (Or.inl ⟨by kernel_rfl, ?h6⟩) (by assumption) ?r6
                case h6 => (intro w hSw; (try dsimp only at hSw); go_simp; try with_reducible rfl)
                try simp only [Act.put, List.setIfInBounds_toArray, List.set_cons_zero, List.set_cons_succ]
                refine wpAnyH_ready (rs := [1]) (by kernel_rfl) (by simp) ?_
                refine AllReadyH.cons (o := { dst := some 76, op := Go.Op.load 9 (Go.Operand.tmp 75), type := 9, pos := "ref.go:49", after := #[{ on := 0, ground := Go.Ground.data }], guard := none }) rfl (fun K hK => ?_) AllReadyH.nil
                go_simp
                refine hK.out _ _ hHeld (fun hHeld => ?_)
                clear hK K
                try simp only [Act.put, List.setIfInBounds_toArray, List.set_cons_zero, List.set_cons_succ]
                refine wpAnyH_take (i := 7) (oi := { dst := some 82, op := Go.Op.binOp Go.BinOp.add 9 (Go.Operand.tmp 76) (Go.Operand.tmp 81) 9, type := 9, pos := "ref.go:49", after := #[{ on := 1, ground := Go.Ground.data }, { on := 6, ground := Go.Ground.data }], guard := none }) (v := ?v7) rfl (by kernel_rfl) (by kernel_rfl) (by kernel_rfl) (fun _ _ _ h => h) (Or.inl ⟨by kernel_rfl, ?h7⟩) (by assumption) ?r7
                case h7 => (intro w hSw; (try dsimp only at hSw); go_simp; try with_reducible rfl)
                try simp only [Act.put, List.setIfInBounds_toArray, List.set_cons_zero, List.set_cons_succ]
                refine wpAnyH_take (i := 8) (oi := { dst := some 83, op := Go.Op.fieldAddr 36 (Go.Operand.tmp 7) 3, type := 0, pos := "ref.go:49", after := #[{ on := 0, ground := Go.Ground.phase }, { on := 1, ground := Go.Ground.phase }, { on := 2, ground := Go.Ground.phase }, { on := 3, ground := Go.Ground.phase }, { on := 4, ground := Go.Ground.phase }, { on := 5, ground := Go.Ground.phase }, { on := 6, ground := Go.Ground.phase }, { on := 7, ground := Go.Ground.phase }], guard := none }) (v := ?v8) rfl (by kernel_rfl) (by kernel_rfl) (by kernel_rfl) (fun _ _ _ h => h) (Or.inl ⟨by kernel_rfl, ?h8⟩) (by assumption) ?r8
                case h8 => (intro w hSw; (try dsimp only at hSw); go_simp; try with_reducible rfl)
                try simp only [Act.put, List.setIfInBounds_toArray, List.set_cons_zero, List.set_cons_succ]
                refine wpAnyH_ready (rs := [9]) (by kernel_rfl) (by simp) ?_
                refine AllReadyH.cons (o := { dst := none, op := Go.Op.store 9 (Go.Operand.tmp 83) (Go.Operand.tmp 82), type := 0, pos := "ref.go:49", after := #[{ on := 8, ground := Go.Ground.data }, { on := 7, ground := Go.Ground.data }, { on := 0, ground := Go.Ground.phase }, { on := 1, ground := Go.Ground.phase }, { on := 2, ground := Go.Ground.phase }, { on := 3, ground := Go.Ground.phase }, { on := 4, ground := Go.Ground.phase }, { on := 5, ground := Go.Ground.phase }, { on := 6, ground := Go.Ground.phase }, { on := 7, ground := Go.Ground.phase }], guard := none }) rfl (fun K hK => ?_) AllReadyH.nil
                go_simp
                refine hK.out _ _ (trivial) (fun hHeld => ?_)
                clear hK K
                try simp only [Act.put, List.setIfInBounds_toArray, List.set_cons_zero, List.set_cons_succ]
                refine wpAnyH_done (by kernel_rfl) ?_ _
                go_wp2
                go_roundw
                case rel => exact ⟨k + 2, _, by omega, by omega, by go_num, hst2, hTl2, P1, P2, P3⟩
                case measure => simp [intOf]; omega
              · go_wp2
                refine wp_drawn_on (fun _ => True) (by kernel_rfl) (trivial) (fun hHeld => ?_)
                refine wpAnyH_take (i := 0) (oi := { dst := some 75, op := Go.Op.fieldAddr 36 (Go.Operand.tmp 7) 3, type := 0, pos := "ref.go:49", after := #[], guard := none }) (v := ?v9) rfl (by kernel_rfl) (by kernel_rfl) (by kernel_rfl) (fun _ _ _ h => h) (Or.inl ⟨by kernel_rfl, ?h9⟩) (by assumption) ?r9
                case h9 => (intro w hSw; (try dsimp only at hSw); go_simp; try with_reducible rfl)
                try simp only [Act.put, List.setIfInBounds_toArray, List.set_cons_zero, List.set_cons_succ]
                refine wpAnyH_take (i := 2) (oi := { dst := some 77, op := Go.Op.move (Go.Operand.tmp 0), type := 9, pos := "ref.go:49", after := #[], guard := none }) (v := ?v10) rfl (by kernel_rfl) (by kernel_rfl) (by kernel_rfl) (fun _ _ _ h => h) (Or.inl ⟨by kernel_rfl, ?h10⟩) (by assumption) ?r10
                case h10 => (intro w hSw; (try dsimp only at hSw); go_simp; try with_reducible rfl)
                try simp only [Act.put, List.setIfInBounds_toArray, List.set_cons_zero, List.set_cons_succ]
                refine wpAnyH_take (i := 3) (oi := { dst := some 78, op := Go.Op.move (Go.Operand.tmp 8), type := 3, pos := "ref.go:49", after := #[], guard := none }) (v := ?v11) rfl (by kernel_rfl) (by kernel_rfl) (by kernel_rfl) (fun _ _ _ h => h) (Or.inl ⟨by kernel_rfl, ?h11⟩) (by assumption) ?r11
                case h11 => (intro w hSw; (try dsimp only at hSw); go_simp; try with_reducible rfl)
                try simp only [Act.put, List.setIfInBounds_toArray, List.set_cons_zero, List.set_cons_succ]
                refine wpAnyH_take (i := 4) (oi := { dst := some 79, op := Go.Op.move (Go.Operand.tmp 8), type := 3, pos := "ref.go:49", after := #[], guard := none }) (v := ?v12) rfl (by kernel_rfl) (by kernel_rfl) (by kernel_rfl) (fun _ _ _ h => h) (Or.inl ⟨by kernel_rfl, ?h12⟩) (by assumption) ?r12
                case h12 => (intro w hSw; (try dsimp only at hSw); go_simp; try with_reducible rfl)
                try simp only [Act.put, List.setIfInBounds_toArray, List.set_cons_zero, List.set_cons_succ]
                refine wpAnyH_take (i := 5) (oi := { dst := some 80, op := Go.Op.binOp Go.BinOp.add 3 (Go.Operand.tmp 79) (Go.Operand.const (Go.Value.int Go.IntKind.i64 1)) 3, type := 3, pos := "ref.go:49", after := #[{ on := 4, ground := Go.Ground.data }], guard := none }) (v := ?v13) rfl (by kernel_rfl) (by kernel_rfl) (by kernel_rfl) (fun _ _ _ h => h) (Or.inl ⟨by kernel_rfl, ?h13⟩) (by assumption) ?r13
                case h13 => (intro w hSw; (try dsimp only at hSw); go_simp; try with_reducible rfl)
                try simp only [Act.put, List.setIfInBounds_toArray, List.set_cons_zero, List.set_cons_succ]
                refine wpAnyH_take (i := 6) (oi := { dst := some 81, op := Go.Op.slice 9 (Go.Operand.tmp 77) (some (Go.Operand.tmp 78)) (some (Go.Operand.tmp 80)) none, type := 9, pos := "ref.go:49", after := #[{ on := 2, ground := Go.Ground.data }, { on := 3, ground := Go.Ground.data }, { on := 5, ground := Go.Ground.data }], guard := none }) (v := ?v14) rfl (by kernel_rfl) (by kernel_rfl) (by kernel_rfl) (fun _ _ _ h => h) (Or.inl ⟨by kernel_rfl, ?h14⟩) (by assumption) ?r14
                case h14 => (intro w hSw; (try dsimp only at hSw); go_simp; try with_reducible rfl)
                try simp only [Act.put, List.setIfInBounds_toArray, List.set_cons_zero, List.set_cons_succ]
                refine wpAnyH_ready (rs := [1]) (by kernel_rfl) (by simp) ?_
                refine AllReadyH.cons (o := { dst := some 76, op := Go.Op.load 9 (Go.Operand.tmp 75), type := 9, pos := "ref.go:49", after := #[{ on := 0, ground := Go.Ground.data }], guard := none }) rfl (fun K hK => ?_) AllReadyH.nil
                go_simp
                refine hK.out _ _ hHeld (fun hHeld => ?_)
                clear hK K
                try simp only [Act.put, List.setIfInBounds_toArray, List.set_cons_zero, List.set_cons_succ]
                refine wpAnyH_take (i := 7) (oi := { dst := some 82, op := Go.Op.binOp Go.BinOp.add 9 (Go.Operand.tmp 76) (Go.Operand.tmp 81) 9, type := 9, pos := "ref.go:49", after := #[{ on := 1, ground := Go.Ground.data }, { on := 6, ground := Go.Ground.data }], guard := none }) (v := ?v15) rfl (by kernel_rfl) (by kernel_rfl) (by kernel_rfl) (fun _ _ _ h => h) (Or.inl ⟨by kernel_rfl, ?h15⟩) (by assumption) ?r15
                case h15 => (intro w hSw; (try dsimp only at hSw); go_simp; try with_reducible rfl)
                try simp only [Act.put, List.setIfInBounds_toArray, List.set_cons_zero, List.set_cons_succ]
                refine wpAnyH_take (i := 8) (oi := { dst := some 83, op := Go.Op.fieldAddr 36 (Go.Operand.tmp 7) 3, type := 0, pos := "ref.go:49", after := #[{ on := 0, ground := Go.Ground.phase }, { on := 1, ground := Go.Ground.phase }, { on := 2, ground := Go.Ground.phase }, { on := 3, ground := Go.Ground.phase }, { on := 4, ground := Go.Ground.phase }, { on := 5, ground := Go.Ground.phase }, { on := 6, ground := Go.Ground.phase }, { on := 7, ground := Go.Ground.phase }], guard := none }) (v := ?v16) rfl (by kernel_rfl) (by kernel_rfl) (by kernel_rfl) (fun _ _ _ h => h) (Or.inl ⟨by kernel_rfl, ?h16⟩) (by assumption) ?r16
                case h16 => (intro w hSw; (try dsimp only at hSw); go_simp; try with_reducible rfl)
                try simp only [Act.put, List.setIfInBounds_toArray, List.set_cons_zero, List.set_cons_succ]
                refine wpAnyH_ready (rs := [9]) (by kernel_rfl) (by simp) ?_
                refine AllReadyH.cons (o := { dst := none, op := Go.Op.store 9 (Go.Operand.tmp 83) (Go.Operand.tmp 82), type := 0, pos := "ref.go:49", after := #[{ on := 8, ground := Go.Ground.data }, { on := 7, ground := Go.Ground.data }, { on := 0, ground := Go.Ground.phase }, { on := 1, ground := Go.Ground.phase }, { on := 2, ground := Go.Ground.phase }, { on := 3, ground := Go.Ground.phase }, { on := 4, ground := Go.Ground.phase }, { on := 5, ground := Go.Ground.phase }, { on := 6, ground := Go.Ground.phase }, { on := 7, ground := Go.Ground.phase }], guard := none }) rfl (fun K hK => ?_) AllReadyH.nil
                go_simp
                refine hK.out _ _ (trivial) (fun hHeld => ?_)
                clear hK K
                try simp only [Act.put, List.setIfInBounds_toArray, List.set_cons_zero, List.set_cons_succ]
                refine wpAnyH_done (by kernel_rfl) ?_ _
                go_wp2
                go_roundw
                case rel => exact ⟨k + 2, _, by omega, by omega, by go_num, hst2, hTl2, P1, P2, P3⟩
                case measure => simp [intOf]; omega
            · rw [if_neg c4] at hst
              have e4 : (((s[k + 1]'hlt1).toNat : Int) != 34) = true := by simp; omega
              have e5 : (((s[k + 1]'hlt1).toNat : Int) != 92) = true := by simp; omega
              obtain ⟨z1, z2⟩ := hfin.out (k + 1) false (by rw [hr.out, hst])
              have Z1 := Lib.hid z1
              have Z2 := Lib.hid z2
              clear hst hce c1 c2 c3 c4 hfin hr z1 z2 hone
              go_wp2
              exact tok_ret3 Z1.out Z2.out _ _ 4 5 6 rfl rfl (by simp) rfl rfl
        · have e2 : (((s[k]'hlt).toNat : Int) == 92) = false := by simpa using c2
          rw [if_neg c2] at hst
          by_cases c3 : ((s[k]'hlt).toNat : Int) < 32
          · have hp : ¬ prB ((s[k]'hlt).toNat : Int) = true := by unfold prB; simp; omega
            rw [if_neg hp] at hst
            have d3 : decide (((s[k]'hlt).toNat : Int) < 32) = true := decide_eq_true c3
            clear hp
            obtain ⟨z1, z2⟩ := hfin.out k false (by rw [hr.out, hst])
            have Z1 := Lib.hid z1
            have Z2 := Lib.hid z2
            clear hst hce c1 c2 hfin hr z1 z2
            go_wp2
            exact tok_ret3 Z1.out Z2.out _ _ 4 5 6 rfl rfl (by simp) rfl rfl
          · have d3 : decide (((s[k]'hlt).toNat : Int) < 32) = false := decide_eq_false c3
            by_cases c4 : (126 : Int) < ((s[k]'hlt).toNat : Int)
            · have hp : ¬ prB ((s[k]'hlt).toNat : Int) = true := by unfold prB; simp; omega
              rw [if_neg hp] at hst
              have d4 : decide ((126 : Int) < ((s[k]'hlt).toNat : Int)) = true := decide_eq_true c4
              clear hp
              obtain ⟨z1, z2⟩ := hfin.out k false (by rw [hr.out, hst])
              have Z1 := Lib.hid z1
              have Z2 := Lib.hid z2
              clear hst hce c1 c2 hfin hr z1 z2
              go_wp2
              exact tok_ret3 Z1.out Z2.out _ _ 4 5 6 rfl rfl (by simp) rfl rfl
            · have d4 : decide ((126 : Int) < ((s[k]'hlt).toNat : Int)) = false := decide_eq_false c4
              have hp : prB ((s[k]'hlt).toNat : Int) = true := by unfold prB; simp; omega
              rw [if_pos hp] at hst
              have hst2 : Hid (R = (2, rqL ((codes s).drop (k + 1)) (T ++ [((s[k]'hlt).toNat : Int)]) (k + 1))) := Lib.hid (by rw [hr.out, hst])
              have hTl2 : Hid ((T ++ [((s[k]'hlt).toNat : Int)]).length ≤ k + 1) := Lib.hid (by have := hTl.out; simp; omega)
              have hone := fun W => byte_cut s k hlt W
              obtain ⟨X, hX⟩ : ∃ X, X = strOfNums [((s[k]'hlt).toNat : Int)] := ⟨_, rfl⟩
              obtain ⟨p1, p2, p3⟩ := push_tok h0.out h1.out hb.out _ X hX
              have P1 := Lib.hid p1
              have P2 := Lib.hid p2
              have P3 := Lib.hid p3
              have hwr : IntKind.i64.wrap ((k : Int) + 1) = (k : Int) + 1 := by simp [IntKind.wrap, IntKind.bits, IntKind.signed]; omega
              have hXs : X.size = 1 := by rw [hX, strOfNums_size]; rfl
              have hov1 : ¬ 9223372036854775807 < (strOfNums T).size + 1 := by have := hTl.out; rw [strOfNums_size]; omega
              rw [← hX] at hone
              clear hst hce c1 c2 hfin hX p1 p2 p3 h0 h1 hb hr hTl hp
              go_wp2
              refine wp_drawn_on (fun _ => True) (by kernel_rfl) (trivial) (fun hHeld => ?_)
              refine wpAnyH_take (i := 0) (oi := { dst := some 75, op := Go.Op.fieldAddr 36 (Go.Operand.tmp 7) 3, type := 0, pos := "ref.go:49", after := #[], guard := none }) (v := ?v17) rfl (by kernel_rfl) (by kernel_rfl) (by kernel_rfl) (fun _ _ _ h => h) (Or.inl ⟨by kernel_rfl, ?h17⟩) (by assumption) ?r17
              case h17 => (intro w hSw; (try dsimp only at hSw); go_simp; try with_reducible rfl)
              try simp only [Act.put, List.setIfInBounds_toArray, List.set_cons_zero, List.set_cons_succ]
              refine wpAnyH_take (i := 2) (oi := { dst := some 77, op := Go.Op.move (Go.Operand.tmp 0), type := 9, pos := "ref.go:49", after := #[], guard := none }) (v := ?v18) rfl (by kernel_rfl) (by kernel_rfl) (by kernel_rfl) (fun _ _ _ h => h) (Or.inl ⟨by kernel_rfl, ?h18⟩) (by assumption) ?r18
              case h18 => (intro w hSw; (try dsimp only at hSw); go_simp; try with_reducible rfl)
              try simp only [Act.put, List.setIfInBounds_toArray, List.set_cons_zero, List.set_cons_succ]
              refine wpAnyH_take (i := 3) (oi := { dst := some 78, op := Go.Op.move (Go.Operand.tmp 8), type := 3, pos := "ref.go:49", after := #[], guard := none }) (v := ?v19) rfl (by kernel_rfl) (by kernel_rfl) (by kernel_rfl) (fun _ _ _ h => h) (Or.inl ⟨by kernel_rfl, ?h19⟩) (by assumption) ?r19
              case h19 => (intro w hSw; (try dsimp only at hSw); go_simp; try with_reducible rfl)
              try simp only [Act.put, List.setIfInBounds_toArray, List.set_cons_zero, List.set_cons_succ]
              refine wpAnyH_take (i := 4) (oi := { dst := some 79, op := Go.Op.move (Go.Operand.tmp 8), type := 3, pos := "ref.go:49", after := #[], guard := none }) (v := ?v20) rfl (by kernel_rfl) (by kernel_rfl) (by kernel_rfl) (fun _ _ _ h => h) (Or.inl ⟨by kernel_rfl, ?h20⟩) (by assumption) ?r20
              case h20 => (intro w hSw; (try dsimp only at hSw); go_simp; try with_reducible rfl)
              try simp only [Act.put, List.setIfInBounds_toArray, List.set_cons_zero, List.set_cons_succ]
              refine wpAnyH_take (i := 5) (oi := { dst := some 80, op := Go.Op.binOp Go.BinOp.add 3 (Go.Operand.tmp 79) (Go.Operand.const (Go.Value.int Go.IntKind.i64 1)) 3, type := 3, pos := "ref.go:49", after := #[{ on := 4, ground := Go.Ground.data }], guard := none }) (v := ?v21) rfl (by kernel_rfl) (by kernel_rfl) (by kernel_rfl) (fun _ _ _ h => h) (Or.inl ⟨by kernel_rfl, ?h21⟩) (by assumption) ?r21
              case h21 => (intro w hSw; (try dsimp only at hSw); go_simp; try with_reducible rfl)
              try simp only [Act.put, List.setIfInBounds_toArray, List.set_cons_zero, List.set_cons_succ]
              refine wpAnyH_take (i := 6) (oi := { dst := some 81, op := Go.Op.slice 9 (Go.Operand.tmp 77) (some (Go.Operand.tmp 78)) (some (Go.Operand.tmp 80)) none, type := 9, pos := "ref.go:49", after := #[{ on := 2, ground := Go.Ground.data }, { on := 3, ground := Go.Ground.data }, { on := 5, ground := Go.Ground.data }], guard := none }) (v := ?v22) rfl (by kernel_rfl) (by kernel_rfl) (by kernel_rfl) (fun _ _ _ h => h) (Or.inl ⟨by kernel_rfl, ?h22⟩) (by assumption) ?r22
              case h22 => (intro w hSw; (try dsimp only at hSw); go_simp; try with_reducible rfl)
              try simp only [Act.put, List.setIfInBounds_toArray, List.set_cons_zero, List.set_cons_succ]
              refine wpAnyH_ready (rs := [1]) (by kernel_rfl) (by simp) ?_
              refine AllReadyH.cons (o := { dst := some 76, op := Go.Op.load 9 (Go.Operand.tmp 75), type := 9, pos := "ref.go:49", after := #[{ on := 0, ground := Go.Ground.data }], guard := none }) rfl (fun K hK => ?_) AllReadyH.nil
              go_simp
              refine hK.out _ _ hHeld (fun hHeld => ?_)
              clear hK K
              try simp only [Act.put, List.setIfInBounds_toArray, List.set_cons_zero, List.set_cons_succ]
              refine wpAnyH_take (i := 7) (oi := { dst := some 82, op := Go.Op.binOp Go.BinOp.add 9 (Go.Operand.tmp 76) (Go.Operand.tmp 81) 9, type := 9, pos := "ref.go:49", after := #[{ on := 1, ground := Go.Ground.data }, { on := 6, ground := Go.Ground.data }], guard := none }) (v := ?v23) rfl (by kernel_rfl) (by kernel_rfl) (by kernel_rfl) (fun _ _ _ h => h) (Or.inl ⟨by kernel_rfl, ?h23⟩) (by assumption) ?r23
              case h23 => (intro w hSw; (try dsimp only at hSw); go_simp; try with_reducible rfl)
              try simp only [Act.put, List.setIfInBounds_toArray, List.set_cons_zero, List.set_cons_succ]
              refine wpAnyH_take (i := 8) (oi := { dst := some 83, op := Go.Op.fieldAddr 36 (Go.Operand.tmp 7) 3, type := 0, pos := "ref.go:49", after := #[{ on := 0, ground := Go.Ground.phase }, { on := 1, ground := Go.Ground.phase }, { on := 2, ground := Go.Ground.phase }, { on := 3, ground := Go.Ground.phase }, { on := 4, ground := Go.Ground.phase }, { on := 5, ground := Go.Ground.phase }, { on := 6, ground := Go.Ground.phase }, { on := 7, ground := Go.Ground.phase }], guard := none }) (v := ?v24) rfl (by kernel_rfl) (by kernel_rfl) (by kernel_rfl) (fun _ _ _ h => h) (Or.inl ⟨by kernel_rfl, ?h24⟩) (by assumption) ?r24
              case h24 => (intro w hSw; (try dsimp only at hSw); go_simp; try with_reducible rfl)
              try simp only [Act.put, List.setIfInBounds_toArray, List.set_cons_zero, List.set_cons_succ]
              refine wpAnyH_ready (rs := [9]) (by kernel_rfl) (by simp) ?_
              refine AllReadyH.cons (o := { dst := none, op := Go.Op.store 9 (Go.Operand.tmp 83) (Go.Operand.tmp 82), type := 0, pos := "ref.go:49", after := #[{ on := 8, ground := Go.Ground.data }, { on := 7, ground := Go.Ground.data }, { on := 0, ground := Go.Ground.phase }, { on := 1, ground := Go.Ground.phase }, { on := 2, ground := Go.Ground.phase }, { on := 3, ground := Go.Ground.phase }, { on := 4, ground := Go.Ground.phase }, { on := 5, ground := Go.Ground.phase }, { on := 6, ground := Go.Ground.phase }, { on := 7, ground := Go.Ground.phase }], guard := none }) rfl (fun K hK => ?_) AllReadyH.nil
              go_simp
              refine hK.out _ _ (trivial) (fun hHeld => ?_)
              clear hK K
              try simp only [Act.put, List.setIfInBounds_toArray, List.set_cons_zero, List.set_cons_succ]
              refine wpAnyH_done (by kernel_rfl) ?_ _
              go_wp2
              go_roundw
              case rel => exact ⟨k + 1, _, by omega, by omega, by go_num, hst2, hTl2, P1, P2, P3⟩
              case measure => simp [intOf]; omega
    · have hke : k = s.size := by omega
      have hst : rqL ((codes s).drop k) T k = (T, k, false) := by
        rw [hke, List.drop_of_length_le (by rw [hcl.out]; omega)]
        rfl
      obtain ⟨z1, z2⟩ := hfin.out k false (by rw [hr.out, hst])
      have Z1 := Lib.hid z1
      have Z2 := Lib.hid z2
      have hki : ¬ (k : Int) < (s.size : Int) := by omega
      clear hst hfin hr z1 z2 hlt hTl h0 h1 hb
      subst hke
      go_wp2
      exact tok_ret3 Z1.out Z2.out _ _ 4 5 6 rfl rfl (by simp) rfl rfl
end Go.Proofs.Ytplgfghffeijcaa
