/-
  Words and walks under the law's proof.
-/
import Derived.Laws.ResultCell
import Derived.Laws.Tables
import Derived.Laws.CopyRow
import Derived.ArgAppend
import Derived.Test.YtpchncpcckfghaaGreatRows
import Derived.IntWalk
import Derived.Deep.QuietTactic
import Derived.BigQuiet
import Derived.Laws.Cover1
import Derived.Deep.Cut
import Derived.WalkMore
import Derived.Deep.LoopGhost
import Derived.Test.YtpchncpcckfghaaGreatQO01
import Derived.Test.YtpchncpcckfghaaGreatQO02
namespace Go.Proofs.YtpchncpcckfghaaGreat
open Go.RowKit
set_option linter.unusedVariables false
set_option linter.unusedSimpArgs false
def btwo (a b : List MkD) : Int := if baseB a = true then bchk b else 210
set_option maxRecDepth 100000 in
theorem btwo_any (w : World) (a1 a2 : Option Addr) (n1 n2 c1 c2 : Nat) (l1 l2 : List MkD) (h1 : RO mkC w a1 n1 c1 l1) (h2 : RO mkC w a2 n2 c2 l2) : Calls Tryz.prog 39 #[.slice a1 n1 c1, .slice a2 n2 c2] w (Gives (.int .i64 (btwo l1 l2)) w) := by
  have q1 := Lib.hid (bbase_any w a1 n1 c1 l1 h1)
  cases hb : baseB l1
  · have hF : Hid (btwo l1 l2 = 210) := Lib.hid (by unfold btwo; rw [hb]; rfl)
    rw [bchk_no hb] at q1
    generalize btwo l1 l2 = E at *
    clear h1 h2 hb
    go_enter Tryz.func39, Tryz.ntmps39
    go_wp2_with fail
    refine q1.out.mono ?_
    rintro e w1 ⟨rfl, b1⟩
    go_wp2
    go_ret
    exact ⟨(by rw [hF.out]; rfl), b1⟩
  · have hF : Hid (btwo l1 l2 = bchk l2) := Lib.hid (by unfold btwo; rw [hb]; rfl)
    rw [bchk_yes hb] at q1
    have q2 := Lib.hid (fun W hW => bbase_any W a2 n2 c2 l2 (h2.below hW))
    rw [← hF.out] at q2
    generalize btwo l1 l2 = E at *
    clear h1 h2 hb hF
    go_enter Tryz.func39, Tryz.ntmps39
    go_wp2_with fail
    refine q1.out.mono ?_
    rintro e w1 ⟨rfl, b1⟩
    have B1 := Lib.hid b1
    clear b1
    go_wp2_with fail
    refine (q2.out _ B1.out).mono ?_
    rintro e w2 ⟨rfl, b2⟩
    have B2 := Lib.hid (B1.out.trans (b2.mono B1.out.size))
    clear b2
    go_wp2
    go_ret
    exact ⟨rfl, B2.out⟩
set_option maxRecDepth 100000 in
theorem bsame_any (w : World) (a1 a2 : Option Addr) (n1 n2 c1 c2 : Nat) (l1 l2 : List MkD) (h1 : RO mkC w a1 n1 c1 l1) (h2 : RO mkC w a2 n2 c2 l2) : Calls Tryz.prog 18 #[.slice a1 n1 c1, .slice a2 n2 c2] w (Gives (.bool (sameM l1 l2)) w) := by
  have q1 := Lib.hid ((mkEqual_any a1 a2 n1 n2 c1 c2 l1 l2 w h1 h2).mono fun e w' h => drawnM_gives h)
  generalize sameM l1 l2 = E at *
  clear h1 h2
  go_enter Tryz.func18, Tryz.ntmps18
  go_wp2_with fail
  refine q1.out.mono ?_
  rintro e w1 ⟨rfl, b1⟩
  go_wp2
  go_ret
  exact ⟨rfl, b1⟩
theorem find_yes {l : List MkD} {n i : Nat} {g : Int} (hr : riseM l) (hn : n = l.length) (hi : i < n) (h : (l.getD i mk0).f = g) : look l g = some (l.getD i mk0).note := by
  have hil : i < l.length := by omega
  have e : l.getD i mk0 = l[i] := by simp [List.getD, hil]
  rw [e] at h ⊢
  rw [← h]
  exact look_mem hr (List.getElem_mem _)
theorem find_no {l : List MkD} {n i : Nat} {g : Int} (hr : riseM l) (hn : n = l.length) (hf : FindI l n g i) (h : (decide (i < n) && decide ((l.getD i mk0).f = g)) = false) : look l g = none := by
  obtain ⟨h1, h2, h3⟩ := hf
  refine look_none fun t ht e => ?_
  obtain ⟨j, hj, rfl⟩ := List.getElem_of_mem ht
  have ej : (l.getD j mk0).f = g := by simpa [List.getD, hj] using e
  by_cases c1 : j < i
  · have := h2 j c1; omega
  · have hin : i < n := by omega
    rw [decide_eq_true hin, Bool.true_and, decide_eq_false_iff_not] at h
    by_cases c2 : j = i
    · rw [c2] at ej; exact h ej
    · have := rise_lt hr (t := i) (j := j) (by omega) hj
      have := h3 i (Nat.le_refl _) hin
      omega
end Go.Proofs.YtpchncpcckfghaaGreat
namespace Go.Proofs.YtpchncpcckfghaaGreat
open Go.RowKit
set_option linter.unusedVariables false
set_option linter.unusedSimpArgs false
theorem info_mk : (Tryz.prog.info? 40).map (·.size) = some 2 := by kernel_rfl
theorem mk_res2 {fn : Func} {p q : Tmp} (h : fn.results = #[.cell p 40, .tmp q]) (tmps : Array Value) (w : World) (g : Nat) (a1 a2 u : Value)
    (hp : tmps.getD p undef = .pointer (some ⟨g, 0, none⟩)) (hq : tmps.getD q undef = u) (hg : Holds w g 40 #[a1, a2]) : (results fn tmps).run Tryz.prog w = .ok (.tuple #[.agg #[a1, a2], u]) w := by
  rw [results_cell_tmp h, hp, hq]
  simp [asAddr, run_loadVar_row w g 40 40 #[a1, a2] (0, 0) _ hg Tryz.underlying40 rfl (by rw [info_mk]; rfl), Result.andThen]
theorem mk_ret2 {Q : Ending → World → Prop} {w : World} {g : Nat} {a1 a2 u : Value} (hg : Holds w g 40 #[a1, a2]) (hQ : Q (.returned (.tuple #[.agg #[a1, a2], u])) w) (act : Act) (f : Func) (n m : Nat) (hf : f.results = #[.cell n 40, .tmp m]) (ha : act.tmps.getD n undef = .pointer (some ⟨g, 0, none⟩)) (hm : act.tmps.getD m undef = u) (hd : act.defers = []) :
    bodyPost Tryz.prog f Q Exit.ret act w :=
  bodyPost_ret (mk_res2 hf _ _ g a1 a2 u ha hm hg) hd hQ
theorem mk_setRow {B : Nat} {w w' : World} (h : Below B w w') {g : Nat} (hg : B ≤ g) (cs : Array Value) : Below B w (w'.setRow g cs) :=
  ⟨h.os, h.tape, h.output, by simpa using h.size, fun k hk => by
    rw [← h.block k hk]
    simp only [World.setRow, Array.getElem?_modify]
    rw [if_neg (by omega)]⟩
def MkE (l : List MkD) (g : Int) (w : World) (e : Ending) (w' : World) : Prop := e = .returned (.tuple #[.agg #[.int .u64 (if hasB l g = true then g else 0), .string ((look l g).getD ⟨#[]⟩)], .bool (hasB l g)]) ∧ Below w.heap.size w w'
theorem mkE_yes {l : List MkD} {n i : Nat} {g : Int} (hr : riseM l) (hn : n = l.length) (hi : i < n) (h : (l.getD i mk0).f = g) {w w' : World} (hb : Below w.heap.size w w') : MkE l g w (.returned (.tuple #[.agg #[.int .u64 (l.getD i mk0).f, .string (l.getD i mk0).note], .bool true])) w' := by
  have q := find_yes hr hn hi h
  have q2 : hasB l g = true := by rw [look_has, q]; rfl
  refine ⟨?_, hb⟩
  rw [q2, q, if_pos rfl, h]
  rfl
theorem mkE_no {l : List MkD} {n i : Nat} {g : Int} (hr : riseM l) (hn : n = l.length) (hf : FindI l n g i) (h : (decide (i < n) && decide ((l.getD i mk0).f = g)) = false) {w w' : World} (hb : Below w.heap.size w w') : MkE l g w (.returned (.tuple #[.agg #[.int .u64 0, .string ⟨#[]⟩], .bool false])) w' := by
  have q := find_no hr hn hf h
  have q2 : hasB l g = false := by rw [look_has, q]; rfl
  refine ⟨?_, hb⟩
  rw [q2, q, if_neg (by decide)]
  rfl
set_option maxRecDepth 100000 in
set_option maxHeartbeats 4000000 in
theorem bfind_any (a : Option Addr) (n c : Nat) (l : List MkD) (g : Int) (hn : n ≤ 4096) (hr : riseM l) (w : World) (h : RO mkC w a n c l) : Calls Tryz.prog 35 #[.slice a n c, .int .u64 g] w (MkE l g w) := by
  have hlen := Lib.hid h.len
  obtain ⟨V, hV⟩ : ∃ V, V = w.alloc (.cells #[.int .u64 0, .string ⟨#[]⟩] 40) := ⟨_, rfl⟩
  have bV : Below w.heap.size w V := by rw [hV]; exact box_below _ _ _
  obtain ⟨gb, hgb⟩ : ∃ gb, gb = w.heap.size := ⟨_, rfl⟩
  have HB : Hid (Holds V gb 40 #[.int .u64 0, .string ⟨#[]⟩]) := Lib.hid (by rw [hV, hgb]; exact Holds.new _ _ _)
  have RV := h.below bV
  have q := Lib.hid (bsearch_any a n c l g hn hr V RV)
  have hyes := Lib.hid (fun i (hi : i < n) e w' (hb : Below w.heap.size w w') => mkE_yes (g := g) hr hlen.out hi e hb)
  have hno := Lib.hid (fun i hf e w' (hb : Below w.heap.size w w') => mkE_no (n := n) (i := i) (g := g) hr hlen.out hf e hb)
  have RW := Lib.hid RV
  have hV' := Lib.hid hV
  have hgb' := Lib.hid hgb
  have bV' := Lib.hid bV
  clear h hr hV hgb bV RV
  generalize MkE l g w = Q at *
  go_enter Tryz.func35, Tryz.ntmps35
  go_wp2_with fail
  rw [← hV'.out, ← hgb'.out]
  refine q.out.mono ?_
  rintro e w1 ⟨⟨i, hfi, rfl⟩, b1⟩
  have HB1 := HB.out.below b1 HB.out.lt
  have b01 := Lib.hid (bV'.out.trans (b1.mono bV'.out.size))
  have RW1 := Lib.hid (RW.out.below b1)
  have hii : i ≤ n := hfi.1
  cases hd : (decide (i < n) && decide ((l.getD i mk0).f = g))
  · have hE := Lib.hid (hno.out i hfi hd)
    clear hfi hd b1 q hyes hno RW RW1 hV' bV' HB
    go_wp2_with
      (refine wpList_store_row rfl 40 (.tmp 4) (.tmp 16) rfl gb #[.int .u64 0, .string ⟨#[]⟩] rfl rfl 40 #[.int .u64 0, .string ⟨#[]⟩] HB1 (by rw [info_mk]; rfl) rfl (by simp [Value.oneCell']) ?_
       have bS : Hid (Below w.heap.size w (w1.setRow gb #[.int .u64 0, .string ⟨#[]⟩])) := Lib.hid (mk_setRow b01.out (Nat.le_of_eq hgb'.out.symm) _)
       have HS : Hid (Holds (w1.setRow gb #[.int .u64 0, .string ⟨#[]⟩]) gb 40 #[.int .u64 0, .string ⟨#[]⟩]) := Lib.hid (setRow_heap w1 gb #[.int .u64 0, .string ⟨#[]⟩] #[.int .u64 0, .string ⟨#[]⟩] 40 (0, 0) HB1)
       generalize w1.setRow gb #[.int .u64 0, .string ⟨#[]⟩] = V8 at *)
    exact mk_ret2 HS.out (hE.out _ bS.out) _ _ 4 5 rfl rfl rfl rfl
  · rw [Bool.and_eq_true, decide_eq_true_eq, decide_eq_true_eq] at hd
    obtain ⟨hin, hfg⟩ := hd
    have hE := Lib.hid (hyes.out i hin hfg)
    have hini : (i : Int) < (n : Int) := by omega
    obtain ⟨b, off, rfl, hbl, x0, x1⟩ := mk_at RW1.out hin
    clear hfi hfg b1 q hyes hno RW RW1 hV' bV' HB
    generalize (l.getD i mk0).f = f at *
    generalize (l.getD i mk0).note = s at *
    go_wp2_with
      (refine wpList_store_row rfl 40 (.tmp 4) (.tmp 20) rfl gb #[.int .u64 f, .string s] rfl rfl 40 #[.int .u64 0, .string ⟨#[]⟩] HB1 (by rw [info_mk]; rfl) rfl (by simp [Value.oneCell']) ?_
       have bS : Hid (Below w.heap.size w (w1.setRow gb #[.int .u64 f, .string s])) := Lib.hid (mk_setRow b01.out (Nat.le_of_eq hgb'.out.symm) _)
       have HS : Hid (Holds (w1.setRow gb #[.int .u64 f, .string s]) gb 40 #[.int .u64 f, .string s]) := Lib.hid (setRow_heap w1 gb #[.int .u64 0, .string ⟨#[]⟩] #[.int .u64 f, .string s] 40 (0, 0) HB1)
       generalize w1.setRow gb #[.int .u64 f, .string s] = V8 at *)
    exact mk_ret2 HS.out (hE.out _ bS.out) _ _ 4 5 rfl rfl rfl rfl
end Go.Proofs.YtpchncpcckfghaaGreat
namespace Go.Proofs.YtpchncpcckfghaaGreat
open Go.RowKit
set_option linter.unusedVariables false
set_option linter.unusedSimpArgs false
set_option maxRecDepth 100000 in
set_option maxHeartbeats 4000000 in
theorem bFind_yes (a : Option Addr) (n c : Nat) (l : List MkD) (g : Int) (hb : baseB l = true) (w : World) (h : RO mkC w a n c l) : Calls Tryz.prog 17 #[.slice a n c, .int .u64 g] w (MkE l g w) := by
  obtain ⟨V, hV⟩ : ∃ V, V = w.alloc (.cells #[.int .u64 0, .string ⟨#[]⟩] 40) := ⟨_, rfl⟩
  have bV : Below w.heap.size w V := by rw [hV]; exact box_below _ _ _
  obtain ⟨gb, hgb⟩ : ∃ gb, gb = w.heap.size := ⟨_, rfl⟩
  have HB : Hid (Holds V gb 40 #[.int .u64 0, .string ⟨#[]⟩]) := Lib.hid (by rw [hV, hgb]; exact Holds.new _ _ _)
  have q := bbase_any V a n c l (h.below bV)
  rw [bchk_yes hb] at q
  have Q := Lib.hid q
  have hn4 : n ≤ 4096 := by have := baseB_len hb; have := h.len; omega
  have q2 := Lib.hid (fun W hW => bfind_any a n c l g hn4 (baseB_rise hb) W ((h.below bV).below hW))
  unfold MkE at q2 ⊢
  generalize (if hasB l g = true then g else 0) = f at *
  generalize (look l g).getD ⟨#[]⟩ = s at *
  generalize hasB l g = B at *
  have hV' := Lib.hid hV
  have hgb' := Lib.hid hgb
  have bV' := Lib.hid bV
  clear h hV hgb bV q hb
  go_enter Tryz.func17, Tryz.ntmps17
  go_wp2_with fail
  rw [← hV'.out, ← hgb'.out]
  refine Q.out.mono ?_
  rintro e w1 ⟨rfl, b1⟩
  have HB1 := Lib.hid (HB.out.below b1 HB.out.lt)
  have b01 := Lib.hid (bV'.out.trans (b1.mono bV'.out.size))
  have Q2 := Lib.hid (q2.out w1 b1)
  clear b1 Q hV' bV' HB q2
  go_wp2_with fail
  refine Q2.out.mono ?_
  rintro e w2 ⟨rfl, b2⟩
  have HB2 := HB1.out.below b2 HB1.out.lt
  have b02 := Lib.hid (b01.out.trans (b2.mono b01.out.size))
  clear b2 Q2 HB1 b01
  go_wp2_with
    (refine wpList_store_row rfl 40 (.tmp 4) (.tmp 13) rfl gb #[.int .u64 f, .string s] rfl rfl 40 #[.int .u64 0, .string ⟨#[]⟩] HB2 (by rw [info_mk]; rfl) rfl (by simp [Value.oneCell']) ?_
     have bS : Hid (Below w.heap.size w (w2.setRow gb #[.int .u64 f, .string s])) := Lib.hid (mk_setRow b02.out (Nat.le_of_eq hgb'.out.symm) _)
     have HS : Hid (Holds (w2.setRow gb #[.int .u64 f, .string s]) gb 40 #[.int .u64 f, .string s]) := Lib.hid (setRow_heap w2 gb #[.int .u64 0, .string ⟨#[]⟩] #[.int .u64 f, .string s] 40 (0, 0) HB2)
     generalize w2.setRow gb #[.int .u64 f, .string s] = V8 at *)
  exact mk_ret2 HS.out ⟨rfl, bS.out⟩ _ _ 4 5 rfl rfl rfl rfl
end Go.Proofs.YtpchncpcckfghaaGreat
namespace Go.Proofs.YtpchncpcckfghaaGreat
open Go.RowKit
set_option linter.unusedVariables false
set_option linter.unusedSimpArgs false
theorem infoMk : (Tryz.prog.info? 40).map (fun i => (i.zero.map fun z => z.cells.size, i.size, i.bytes)) = some (some 2, 2, 24) := by kernel_rfl
theorem infoMkZ : ∃ i z, Tryz.prog.info? 40 = some i ∧ i.zero = some z ∧ i.size = 2 ∧ i.bytes = 24 ∧ z.cells.size = 2 := by
  have h := infoMk
  cases hi : Tryz.prog.info? 40 with
  | none => rw [hi] at h; simp at h
  | some i =>
    rw [hi] at h
    simp at h
    obtain ⟨⟨z, hz, h1⟩, h2, h3⟩ := h
    exact ⟨i, z, rfl, hz, h2, h3, h1⟩
def mkcells (l : List MkD) : List Value := l.flatMap mkC
theorem mkcells_snoc (l : List MkD) (x : MkD) : mkcells (l ++ [x]) = mkcells l ++ mkC x := by simp [mkcells]
theorem mkcells_one {l : List MkD} {u : Value} (h : u ∈ mkcells l) : u.oneCell' = true := by
  obtain ⟨a, _, ha⟩ := List.mem_flatMap.1 h
  simp [mkC] at ha
  rcases ha with rfl | rfl <;> rfl
theorem mro_own {w : World} {base : Nat} {e : TypeId} {v : Value} {n : Nat} {l : List MkD} (h : w.ownsRow base e 2 v n (mkcells l)) : ∃ a c, v = .slice a n c ∧ RO mkC w a n c l := by
  have hl := h.1
  have h2 := flat_len mkC_len l
  unfold mkcells at hl
  obtain ⟨a, c, rfl, h3, h4, h5⟩ := seesC_own h
  exact ⟨a, c, rfl, ⟨by omega, h3, h4, h5⟩⟩
theorem wpList_append_mk {ops : Array Oper} {rest : List Oper} {o : Oper} {a : Act} {Q : Exit → Act → World → Prop} (w : World) (hg : o.guard = none) (s x : Operand) (hop : o.op = Op.call { callee := Callee.builtin Builtin.append, args := #[s, x], argTypes := #[22, 22] })
    (w0 : World) (v : Value) (n : Nat) (l : List MkD) (hown : w.ownsRow w0.heap.size 40 2 v n (mkcells l)) (hb : Below w0.heap.size w0 w) (y : MkD)
    (hsv : a.eval s = v) (hg2 : Nat) (hx : a.eval x = .slice (some ⟨hg2, 0, none⟩) 1 1) (hh : hg2 = w.heap.size) (hn : n ≤ 1000000)
    (hK : ∀ v' w', w'.ownsRow w0.heap.size 40 2 v' (n + 1) (mkcells (l ++ [y])) → Below w0.heap.size w0 w' → wpList Tryz.prog ops Q rest (a.put o.dst v') w') :
    wpList Tryz.prog ops Q (o :: rest) a (w.alloc (.cells #[.int .u64 y.f, .string y.note] 40)) := by
  subst hh
  obtain ⟨i0, z0, hi, hz, h6, h72, hz6⟩ := infoMkZ
  have hb1 := box_below w #[.int .u64 y.f, .string y.note] 40
  refine wpList_append_cellsB _ hg s x 22 hop w0 40 i0 z0 2 24 Tryz.underlying22 hi hz h6 h72 hz6 (by omega) v n (mkcells l) (own_below hown hb1) (hb.trans (hb1.mono hb.size)) _ _ 1 1 (mkC y) rfl (seesC_lit w 40 _) (fun u hu => mkcells_one (l := [y]) (by simpa [mkcells] using hu)) hsv hx (by unfold maxLen; omega) (by omega) ?_
  intro v' w' h1 h2
  exact hK v' w' (by rw [mkcells_snoc]; exact h1) h2
theorem mkcells_app (A B : List MkD) : mkcells (A ++ B) = mkcells A ++ mkcells B := by simp [mkcells]
theorem mkcells_len (L : List MkD) : (mkcells L).length = L.length * 2 := flat_len mkC_len L
end Go.Proofs.YtpchncpcckfghaaGreat
namespace Go.Proofs.YtpchncpcckfghaaGreat
open Go.RowKit
set_option linter.unusedVariables false
set_option linter.unusedSimpArgs false
def MkGives (w : World) (l : List MkD) (e : Ending) (w' : World) : Prop := ∃ a c, e = .returned (.slice a l.length c) ∧ RO mkC w' a l.length c l ∧ Below w.heap.size w w'
end Go.Proofs.YtpchncpcckfghaaGreat
namespace Go.Proofs.YtpchncpcckfghaaGreat
open Go.RowKit
set_option linter.unusedVariables false
theorem SeesC.cut {B : Nat} {w : World} {a : Option Addr} {cs : List Value} (h : SeesC B w a cs) (size lo hi cap : Nat) (hl : hi * size ≤ cs.length) (hlo : lo ≤ hi) (hc : hi ≤ cap) (hz : 0 < size) :
    ∃ a', sliced a lo hi cap size = .slice a' (hi - lo) (cap - lo) ∧ SeesC B w a' ((cs.take (hi * size)).drop (lo * size)) ∧ (a = none → a' = none) := by
  unfold sliced
  refine ⟨_, rfl, ?_, by rintro rfl; split <;> rfl⟩
  by_cases h0 : lo = hi
  · left; subst h0; exact List.drop_of_length_le (by simp; omega)
  have hmul : lo * size < hi * size := Nat.mul_lt_mul_of_pos_right (by omega) hz
  rcases h with rfl | ⟨b, off, rfl, hB, hcell⟩
  · simp at hl; omega
  · right
    have h1 : ¬ (cap = lo) := by omega
    have key : ∀ i u, ((cs.take (hi * size)).drop (lo * size))[i]? = some u → cs[lo * size + i]? = some u := by
      intro i u hu
      rw [List.getElem?_drop] at hu
      rw [List.getElem?_take] at hu
      split at hu
      · exact hu
      · cases hu
    refine ⟨b, off + lo * size, ?_, hB, fun i u hi' => ?_⟩
    · simp only [h1, if_false]
      simp only [Option.map_some, add_at]
    · rw [Nat.add_assoc]
      exact hcell _ _ (key i u hi')
theorem ccut_l {P : Program} {t : TypeId} {size : Nat} (ht : P.underlying t = some (.slice (P.elem t))) (hs : ∀ W, (sizeOf (P.elem t)).run P W = .ok size W) (a : Option Addr) (n cap lo : Nat) {a' : Option Addr} {m c : Nat} (h : sliced a lo n cap size = .slice a' m c) (hlo : lo ≤ n) (W : World) :
    (Instr.slice t (.slice a n cap) (some (.int .i64 (lo : Int))) none none).run P W = .ok (.slice a' m c) W := by
  rw [← h, run_slice_l (P := P) (w := W) t a n cap ht .i64 lo (by omega) (by omega), hs]
  simp [Result.andThen]
theorem ccut_hm {P : Program} {t : TypeId} {size : Nat} (ht : P.underlying t = some (.slice (P.elem t))) (hs : ∀ W, (sizeOf (P.elem t)).run P W = .ok size W) (a : Option Addr) (n cap hi mx : Nat) {a' : Option Addr} {m c : Nat} (h : sliced a 0 hi mx size = .slice a' m c) (hhi : hi ≤ mx) (hm : mx ≤ cap) (W : World) :
    (Instr.slice t (.slice a n cap) none (some (.int .i64 (hi : Int))) (some (.int .i64 (mx : Int)))).run P W = .ok (.slice a' m c) W := by
  rw [← h, run_slice_hm (P := P) (w := W) t a n cap ht .i64 .i64 hi mx (by omega) (by omega) (by omega), hs]
  simp [Result.andThen]
theorem wp_append_full {P : Program} (w : World) {o : Oper} {a : Act} {K : Act → World → Prop} {Q : Exit → Act → World → Prop}
    (s x : Operand) (t : TypeId) (hop : o.op = Op.call { callee := Callee.builtin Builtin.append, args := #[s, x], argTypes := #[t, t] })
    (e : TypeId) (i : TypeInfo) (z : Value) (size bytes : Nat) (h1 : P.underlying t = some (.slice e)) (h2 : P.info? e = some i) (h3 : i.zero = some z) (h4 : i.size = size) (h5 : i.bytes = bytes) (h6 : z.cells.size = size) (h7 : 0 < size)
    (ao : Option Addr) (n cap : Nat) (olds : List Value) (hs : a.eval s = .slice ao n cap) (hnone : ao = none → n = 0 ∧ cap = 0) (hlo : olds.length = n * size) (B : Nat) (holds : SeesC B w ao olds)
    (ad : Addr) (m c : Nat) (news : List Value) (hx : a.eval x = .slice (some ad) m c) (hn : news.length = m * size) (hc : SeesC B w (some ad) news) (h1c : ∀ u ∈ news, u.oneCell' = true)
    (hfull : cap < n + m) (b1 : n + m ≤ maxLen) (b2 : (n + m) * bytes ≤ 140737488355328)
    (hK : ∀ v' w', w'.ownsRow w.heap.size e size v' (n + m) (olds ++ news) → w.grownBy w' none → K (a.put o.dst v') w') : o.wp P a w K Q := by
  have look : ∀ {b : Addr} {cs : List Value}, SeesC B w (some b) cs → ∀ j u, cs[j]? = some u → w.cell? (b.add j) = some u := by
    intro b cs h j u hu
    rcases h with rfl | ⟨g, off, hb, _, hcell⟩
    · simp at hu
    · injection hb with hb; subst hb; rw [add_at]; exact hcell j u hu
  cases ao with
  | some b =>
    obtain ⟨v', w', hrun, r1, r2⟩ := run_append_arg_grows (P := P) w t o.type e i z size bytes h1 h2 h3 h4 h5 h6 h7 b n cap olds hlo (look holds) ad m c news hn (look hc) hfull b1 b2
    unfold Oper.wp
    simp [execOp, hop, resolve, invoke, builtin, hs, hx, hrun, Result.andThen]
    exact hK v' w' r1 r2
  | none =>
    obtain ⟨rfl, rfl⟩ := hnone rfl
    obtain rfl : olds = [] := List.eq_nil_of_length_eq_zero (by simpa using hlo)
    obtain ⟨v', w', hrun, r1, r2, _⟩ := run_append_own (P := P) w w.heap.size t o.type e i z size bytes h1 h2 h3 h4 h5 h6 h7 (.slice none 0 0) 0 [] (World.ownsRow_nil w _ e size) ad m c news hn (look hc) h1c b1 b2 (Nat.le_refl _)
    unfold Oper.wp
    simp [execOp, hop, resolve, invoke, builtin, hs, hx, hrun, Result.andThen]
    exact hK v' w' r1 r2
theorem wp_append_cellsB {P : Program} (w : World) {o : Oper} {a : Act} {K : Act → World → Prop} {Q : Exit → Act → World → Prop}
    (s x : Operand) (t : TypeId) (hop : o.op = Op.call { callee := Callee.builtin Builtin.append, args := #[s, x], argTypes := #[t, t] })
    (base : Nat) (e : TypeId) (i : TypeInfo) (z : Value) (size bytes : Nat) (ht : P.underlying t = some (.slice e)) (hi : P.info? e = some i) (hz : i.zero = some z)
    (hsize : i.size = size) (hby : i.bytes = bytes) (hzs : z.cells.size = size) (hsz : 0 < size)
    (v : Value) (n : Nat) (xs : List Value) (hown : w.ownsRow base e size v n xs) (hb : base ≤ w.heap.size) (B : Nat) (A : Option Addr) (m c : Nat) (news : List Value) (hl : news.length = m * size) (hs : SeesC B w A news) (h1 : ∀ u ∈ news, u.oneCell' = true)
    (hsv : a.eval s = v) (hx : a.eval x = .slice A m c) (hn : n + m ≤ maxLen) (hby2 : (n + m) * bytes ≤ 140737488355328)
    (hK : ∀ v' w', w'.ownsRow base e size v' (n + m) (xs ++ news) → w.grownBy w' v.ownBlock → K (a.put o.dst v') w') : o.wp P a w K Q := by
  obtain ⟨v', w', hrun, g1, g2, g3⟩ := run_append_cellsB (P := P) w base t o.type e i z size bytes ht hi hz hsize hby hzs hsz v n xs hown B A m c news hl hs h1 hn hby2 hb
  unfold Oper.wp
  simp [execOp, hop, resolve, invoke, builtin, hsv, hx, hrun, Result.andThen]
  exact hK v' w' g1 g2
end Go.Proofs.YtpchncpcckfghaaGreat
namespace Go.Proofs.YtpchncpcckfghaaGreat
open Go.RowKit
set_option linter.unusedVariables false
set_option linter.unusedSimpArgs false
theorem less_is (x y : ByteArray) : Op.bytesLess x.toList y.toList = lt8 (byt x) (byt y) := by
  unfold lt8 byt
  rw [ByteArray.toList_eq, ByteArray.toList_eq]
theorem anumber_any (a b : Int) (w : World) : Calls Tryz.prog 95 #[.int .i64 a, .int .i64 b] w fun e w' => e = .returned (.int .i64 (cmpZ a b)) ∧ w = w' := by
  unfold cmpZ
  by_cases h1 : a < b
  · rw [if_pos h1]
    go_enter Tryz.func95, Tryz.ntmps95
    go_wp2
    go_ret
    exact ⟨rfl, rfl⟩
  · rw [if_neg h1]
    by_cases h2 : b < a
    · rw [if_pos h2]
      go_enter Tryz.func95, Tryz.ntmps95
      go_wp2
      go_ret
      exact ⟨rfl, rfl⟩
    · rw [if_neg h2]
      go_enter Tryz.func95, Tryz.ntmps95
      go_wp2
      go_ret
      exact ⟨rfl, rfl⟩
theorem asign_any (a b : ByteArray) (w : World) : Calls Tryz.prog 94 #[.string a, .string b] w fun e w' => e = .returned (.int .i64 (cmpT a b)) ∧ w = w' := by
  have l1 := less_is a b
  have l2 := less_is b a
  unfold cmpT
  cases h1 : lt8 (byt a) (byt b) with
  | true =>
    rw [h1] at l1
    rw [if_pos rfl]
    go_enter Tryz.func94, Tryz.ntmps94
    go_wp2
    go_ret
    exact ⟨rfl, rfl⟩
  | false =>
    rw [h1] at l1
    rw [if_neg (by simp)]
    cases h2 : lt8 (byt b) (byt a) with
    | true =>
      rw [h2] at l2
      rw [if_pos rfl]
      have n1 : (a.toList == b.toList) = false := by
        rw [beq_eq_false_iff_ne]
        intro e
        rw [ByteArray.toList_eq, ByteArray.toList_eq] at e
        have e' : byt a = byt b := e
        rw [e', lt8_irrefl] at h2
        cases h2
      have n2 : (b.toList == a.toList) = false := by rw [beq_eq_false_iff_ne] at n1 ⊢; exact fun e => n1 e.symm
      go_enter Tryz.func94, Tryz.ntmps94
      go_wp2
      go_ret
      exact ⟨rfl, rfl⟩
    | false =>
      rw [if_neg (by simp)]
      have e := byt_inj (lt8_tri h1 h2)
      subst e
      rw [h2] at l2
      have n1 : (a.toList == a.toList) = true := by simp
      go_enter Tryz.func94, Tryz.ntmps94
      go_wp2
      go_ret
      exact ⟨rfl, rfl⟩
end Go.Proofs.YtpchncpcckfghaaGreat
namespace Go.Proofs.YtpchncpcckfghaaGreat
open Go.RowKit
set_option linter.unusedVariables false
set_option linter.unusedSimpArgs false
theorem bl_grown {B : Nat} {a w w' : World} {row : Option Nat} (h : Below B a w) (hg : w.grownBy w' row) (hB : B ≤ w.heap.size) (hr : ∀ k, row = some k → B ≤ k) : Below B a w' :=
  h.grown hg hB hr
theorem bl_set {B : Nat} {a w : World} (h : Below B a w) {p : Addr} (hp : B ≤ p.block) (u : Value) : Below B a (w.setCell p u) := ((BelowE.of (X := []) h).setNew hp u).none
theorem ho_grown {w w' : World} {row : Option Nat} {g : Nat} {ty : TypeId} {cs : Array Value} (h : Holds w g ty cs) (hg : w.grownBy w' row) (hr : some g ≠ row) : Holds w' g ty cs := (hg.block g h.lt hr).trans h
structure LB (w : World) (g : Nat) (v : Value) (O : List MkD) : Prop where
  blk : Holds w g 22 #[v]
  own : w.ownsRow (g + 1) 40 2 v O.length (mkcells O)
theorem LB.not {w : World} {g : Nat} {v : Value} {O : List MkD} (h : LB w g v O) : some g ≠ v.ownBlock := fun e => by have := (h.own.lt g e.symm).1; omega
theorem LB.below {w W : World} {g : Nat} {v : Value} {O : List MkD} (h : LB w g v O) (hb : Below w.heap.size w W) : LB W g v O :=
  ⟨h.blk.below hb h.blk.lt, own_below h.own hb⟩
theorem LB.told {w W : World} {g : Nat} {v v' : Value} {O : List MkD} {t : MkD} (h : LB w g v O) (ho : W.ownsRow (g + 1) 40 2 v' (O.length + 1) (mkcells O ++ mkC t)) (hg : w.grownBy W v.ownBlock) : LB (W.setCell ⟨g, 0, none⟩ v') g v' (O ++ [t]) := by
  refine ⟨(ho_grown h.blk hg h.not).set 0 v', ?_⟩
  rw [mkcells_snoc, List.length_append]
  exact own_belowE ho ((BelowE.refl [g] _ _).setIn (p := ⟨g, 0, none⟩) (by simp) _) (fun k hk => by have := (ho.lt k hk).1; simp; omega)
theorem LB.told_below {w W : World} {g : Nat} {v v' : Value} {O : List MkD} (h : LB w g v O) (hg : w.grownBy W v.ownBlock) : Below g w (W.setCell ⟨g, 0, none⟩ v') :=
  bl_set (bl_grown (Below.refl _ _) hg (Nat.le_of_lt h.blk.lt) (fun k hk => by have := (h.own.lt k hk).1; omega)) (p := ⟨g, 0, none⟩) (Nat.le_refl _) _
theorem wpList_append_mkB {ops : Array Oper} {rest : List Oper} {o : Oper} {a : Act} {Q : Exit → Act → World → Prop} (w : World) (hg : o.guard = none) (s x : Operand) (hop : o.op = Op.call { callee := Callee.builtin Builtin.append, args := #[s, x], argTypes := #[22, 22] })
    (base : Nat) (v : Value) (n : Nat) (l : List MkD) (hown : w.ownsRow base 40 2 v n (mkcells l)) (hb : base ≤ w.heap.size) (y : MkD)
    (hsv : a.eval s = v) (hg2 : Nat) (hx : a.eval x = .slice (some ⟨hg2, 0, none⟩) 1 1) (hh : hg2 = w.heap.size) (hn : n ≤ 1000000)
    (hK : ∀ v' w', w'.ownsRow base 40 2 v' (n + 1) (mkcells l ++ mkC y) → (w.alloc (.cells (mkC y).toArray 40)).grownBy w' v.ownBlock → wpList Tryz.prog ops Q rest (a.put o.dst v') w') :
    wpList Tryz.prog ops Q (o :: rest) a (w.alloc (.cells #[.int .u64 y.f, .string y.note] 40)) := by
  subst hh
  obtain ⟨i0, z0, hi, hz, h6, h72, hz6⟩ := infoMkZ
  have hb1 := box_below w #[.int .u64 y.f, .string y.note] 40
  refine wpList_plain hg fun K hK' => wp_append_cellsB _ s x 22 hop base 40 i0 z0 2 24 Tryz.underlying22 hi hz h6 h72 hz6 (by decide) v n (mkcells l) (own_below hown hb1) (Nat.le_trans hb hb1.size) _ _ 1 1 (mkC y) rfl (seesC_lit w 40 _) (fun u hu => mkcells_one (l := [y]) (by simpa [mkcells] using hu)) hsv hx (by unfold maxLen; omega) (by omega) ?_
  intro v' w' h1 h2
  exact hK' _ _ (hK v' w' h1 h2)
theorem gtr_yes {s t : ByteArray} (h : lt8 (byt s) (byt t) = true) : Op.bytesLess t.toList s.toList = false ∧ (t.toList == s.toList) = false := by
  have h2 := lt8_asymm h
  refine ⟨by rw [less_is]; exact h2, ?_⟩
  rw [beq_eq_false_iff_ne]
  intro e
  rw [ByteArray.toList_eq, ByteArray.toList_eq] at e
  have e' : byt t = byt s := e
  rw [e', lt8_irrefl] at h
  cases h
theorem gtr_no {s t : ByteArray} (h : lt8 (byt s) (byt t) = false) : Op.bytesLess t.toList s.toList = true ∨ t = s := by
  cases h2 : lt8 (byt t) (byt s) with
  | true => exact .inl (by rw [less_is]; exact h2)
  | false => exact .inr (byt_inj (lt8_tri h2 h))
def pairV (x y : MkD) (p q : Bool) : Value := .agg #[.int .u64 x.f, .string x.note, .int .u64 y.f, .string y.note, .bool p, .bool q]
def Shown (w : World) (g : Nat) (O : List MkD) (e : Ending) (w' : World) : Prop := e = .returned (.tuple #[]) ∧ Below g w w' ∧ ∃ v, LB w' g v O
set_option maxRecDepth 100000 in
set_option maxHeartbeats 4000000 in
theorem lessA_any (w : World) (g : Nat) (v : Value) (O : List MkD) (x y : MkD) (hO : O.length ≤ 100000) (h : LB w g v O) :
    Calls Tryz.prog 42 #[pairV x y true false, .pointer (some ⟨g, 0, none⟩)] w (Shown w g (O ++ [x])) := by
  unfold pairV
  obtain ⟨ao, co, rfl, -⟩ := mro_own h.own
  obtain ⟨V, hV⟩ : ∃ V, V = w.alloc (.cells #[.int .u64 x.f, .string x.note, .int .u64 y.f, .string y.note, .bool true, .bool false] 75) := ⟨_, rfl⟩
  have bV : Below w.heap.size w V := by rw [hV]; exact box_below _ _ _
  obtain ⟨gp, hgp⟩ : ∃ gp, gp = w.heap.size := ⟨_, rfl⟩
  have HP : Holds V gp 75 #[.int .u64 x.f, .string x.note, .int .u64 y.f, .string y.note, .bool true, .bool false] := by rw [hV, hgp]; exact Holds.new _ _ _
  have HL := Lib.hid (h.below bV)
  have hgl : g < w.heap.size := h.blk.lt
  have bV' := Lib.hid bV
  have hV' := Lib.hid hV
  have hgp' := Lib.hid hgp
  have c0 := HL.out.blk.cell 0
  have p0 := HP.cell 0
  have p1 := HP.cell 1
  have p5 := HP.cell 5
  simp at p0 p1 p5 c0
  clear h bV hV HP hgp
  go_enter Tryz.func42, Tryz.ntmps42
  go_upto_region 1 with (fail)
  rw [← hV'.out, ← hgp'.out]
  clear hV' hgp'
  go_wp2_with
    (at_builtin
     go_loud (refine wpList_append_mkB V rfl (.tmp 6) (.tmp 9) rfl (g + 1) _ O.length O HL.out.own HL.out.blk.lt x rfl _ rfl rfl (by omega) ?_)
     intro v2 W2 o2 g2
     obtain ⟨a2, c2, rfl, -, -, -⟩ := seesC_own o2
     have hb := box_below V (mkC x).toArray 40
     have HL2 := HL.out.below hb
     have hend := Lib.hid (HL2.told (t := x) o2 g2)
     have hendB := Lib.hid ((bV'.out.mono (Nat.le_of_lt hgl)).trans ((hb.mono (Nat.le_of_lt HL.out.blk.lt)).trans (HL2.told_below (v' := .slice a2 (O.length + 1) c2) g2)))
     have H2 := ho_grown HL2.blk g2 HL2.not
     have k0 := H2.cell 0
     have f0 := H2.free 0
     simp at k0
     clear o2 g2 hb HL2 H2)
  go_end0
  exact ⟨rfl, hendB.out, _, hend.out⟩
end Go.Proofs.YtpchncpcckfghaaGreat
namespace Go.Proofs.YtpchncpcckfghaaGreat
open Go.RowKit
set_option linter.unusedVariables false
set_option linter.unusedSimpArgs false
def sideL (tell : Option MkD → Option MkD → List MkD) : List MkD → List MkD → List MkD
  | [], [] => []
  | [], y :: b => tell none (some y) ++ sideL tell [] b
  | x :: a, [] => tell (some x) none ++ sideL tell a []
  | x :: a, y :: b => if x.f < y.f then tell (some x) none ++ sideL tell a (y :: b) else if y.f < x.f then tell none (some y) ++ sideL tell (x :: a) b else tell (some x) (some y) ++ sideL tell a b
  termination_by a b => a.length + b.length
def tellU : Option MkD → Option MkD → List MkD
  | some x, some y => [⟨x.f, maxN x.note y.note⟩]
  | some x, none => [x]
  | none, some y => [y]
  | none, none => []
def tellL : Option MkD → Option MkD → List MkD
  | some x, none => [x]
  | _, _ => []
theorem side_union : ∀ (a b : List MkD), sideL tellU a b = mergeL a b
  | [], [] => by simp [sideL, mergeL]
  | [], y :: b => by
    have := side_union [] b
    simp [sideL, mergeL, tellU, this] at *
  | x :: a, [] => by
    have := side_union a []
    rw [mergeL_nil] at *
    simp [sideL, tellU, this]
  | x :: a, y :: b => by
    have h1 := side_union a (y :: b)
    have h2 := side_union (x :: a) b
    have h3 := side_union a b
    rw [sideL, mergeL, h1, h2, h3]
    split
    · rfl
    · split <;> rfl
  termination_by a b => a.length + b.length
theorem less_nil (a : List MkD) : lessL a [] = a := by simp [lessL, hasB]
theorem less_skip {a b : List MkD} {y : MkD} (h : ∀ t ∈ a, t.f ≠ y.f) : lessL a (y :: b) = lessL a b := by
  unfold lessL
  refine List.filter_congr fun t ht => ?_
  have := h t ht
  simp only [hasB, List.any_cons]
  rw [decide_eq_false (fun e => this e.symm), Bool.false_or]
theorem side_less : ∀ (a b : List MkD), riseM a → riseM b → sideL tellL a b = lessL a b
  | [], [], _, _ => by simp [sideL, lessL]
  | [], y :: b, h1, h2 => by
    have := side_less [] b h1 (List.pairwise_cons.1 h2).2
    rw [sideL, this]
    simp [lessL, tellL]
  | x :: a, [], h1, h2 => by
    have := side_less a [] (List.pairwise_cons.1 h1).2 h2
    rw [sideL, this, less_nil, less_nil]
    rfl
  | x :: a, y :: b, h1, h2 => by
    obtain ⟨hx, ha⟩ := List.pairwise_cons.1 h1
    obtain ⟨hy, hb⟩ := List.pairwise_cons.1 h2
    have i1 := side_less a (y :: b) ha h2
    have i2 := side_less (x :: a) b h1 hb
    have i3 := side_less a b ha hb
    rw [sideL]
    split
    · rename_i hlt
      rw [i1]
      have hn : hasB (y :: b) x.f = false := by
        unfold hasB
        rw [List.any_eq_false]
        intro t ht
        rcases List.mem_cons.1 ht with rfl | ht
        · simp; omega
        · have := hy t ht
          simp; omega
      unfold lessL
      rw [List.filter_cons]
      simp [hn, tellL]
    · rename_i hlt
      split
      · rename_i hlt2
        rw [i2, less_skip (y := y)]
        · rfl
        · intro t ht
          rcases List.mem_cons.1 ht with rfl | ht
          · omega
          · have := hx t ht; omega
      · rename_i hlt2
        have he : x.f = y.f := by omega
        rw [i3]
        have hn : hasB (y :: b) x.f = true := by
          unfold hasB
          simp [he]
        have : lessL (x :: a) (y :: b) = lessL a (y :: b) := by
          unfold lessL
          rw [List.filter_cons]
          simp [hn]
        rw [this, less_skip (y := y)]
        · rfl
        · intro t ht
          have := hx t ht; omega
  termination_by a b => a.length + b.length
theorem getD_drop {l : List MkD} {i : Nat} (h : i < l.length) : l.drop i = l.getD i mk0 :: l.drop (i + 1) := by
  rw [List.drop_eq_getElem_cons h]
  simp [List.getD, h]
theorem side_end (tell : Option MkD → Option MkD → List MkD) {A B : List MkD} {i j : Nat} (hi : A.length ≤ i) (hj : B.length ≤ j) : sideL tell (A.drop i) (B.drop j) = [] := by
  rw [List.drop_eq_nil_of_le hi, List.drop_eq_nil_of_le hj]
  simp [sideL]
theorem side_a (tell : Option MkD → Option MkD → List MkD) {A B : List MkD} {i j : Nat} (hi : i < A.length) (h : B.length ≤ j ∨ (j < B.length ∧ (A.getD i mk0).f < (B.getD j mk0).f)) : sideL tell (A.drop i) (B.drop j) = tell (some (A.getD i mk0)) none ++ sideL tell (A.drop (i + 1)) (B.drop j) := by
  rw [getD_drop hi]
  rcases h with h | ⟨h, h2⟩
  · rw [List.drop_eq_nil_of_le h, sideL]
  · rw [getD_drop h, sideL, if_pos h2]
theorem side_b (tell : Option MkD → Option MkD → List MkD) {A B : List MkD} {i j : Nat} (hj : j < B.length) (h : A.length ≤ i ∨ (i < A.length ∧ (B.getD j mk0).f < (A.getD i mk0).f)) : sideL tell (A.drop i) (B.drop j) = tell none (some (B.getD j mk0)) ++ sideL tell (A.drop i) (B.drop (j + 1)) := by
  rw [getD_drop hj]
  rcases h with h | ⟨h, h2⟩
  · rw [List.drop_eq_nil_of_le h, sideL]
  · rw [getD_drop h, sideL, if_neg (by omega), if_pos h2]
theorem side_both (tell : Option MkD → Option MkD → List MkD) {A B : List MkD} {i j : Nat} (hi : i < A.length) (hj : j < B.length) (h : ¬ (A.getD i mk0).f < (B.getD j mk0).f) (h2 : ¬ (B.getD j mk0).f < (A.getD i mk0).f) : sideL tell (A.drop i) (B.drop j) = tell (some (A.getD i mk0)) (some (B.getD j mk0)) ++ sideL tell (A.drop (i + 1)) (B.drop (j + 1)) := by
  rw [getD_drop hi, getD_drop hj, sideL, if_neg h, if_neg h2]
structure ShowS (f g : Nat) (tell : Option MkD → Option MkD → List MkD) : Prop where
  a : ∀ (w : World) (v : Value) (O : List MkD) (x : MkD), O.length ≤ 100000 → LB w g v O → Calls Tryz.prog f #[pairV x mk0 true false, .pointer (some ⟨g, 0, none⟩)] w (Shown w g (O ++ tell (some x) none))
  b : ∀ (w : World) (v : Value) (O : List MkD) (y : MkD), O.length ≤ 100000 → LB w g v O → Calls Tryz.prog f #[pairV mk0 y false true, .pointer (some ⟨g, 0, none⟩)] w (Shown w g (O ++ tell none (some y)))
  ab : ∀ (w : World) (v : Value) (O : List MkD) (x y : MkD), O.length ≤ 100000 → x.f = y.f → LB w g v O → Calls Tryz.prog f #[pairV x y true true, .pointer (some ⟨g, 0, none⟩)] w (Shown w g (O ++ tell (some x) (some y)))
  one : ∀ x y, (tell x y).length ≤ 1
set_option maxRecDepth 100000 in
set_option maxHeartbeats 16000000 in
theorem beside_any (f g : Nat) (tell : Option MkD → Option MkD → List MkD) (hS : ShowS f g tell) (ef : ∀ args w, (callFunc f args).run Tryz.prog w = .ok (.enter f args) w) (w1 w : World) (a1 a2 : Option Addr) (n1 n2 c1 c2 : Nat) (A B : List MkD) (hn1 : n1 ≤ 4096) (hn2 : n2 ≤ 4096)
    (hg : g = w1.heap.size) (hw : Below g w1 w) (h1 : RO mkC w1 a1 n1 c1 A) (h2 : RO mkC w1 a2 n2 c2 B) (v0 : Value) (h : LB w g v0 []) :
    Calls Tryz.prog 40 #[.slice a1 n1 c1, .slice a2 n2 c2, .func (.func f) #[] #[.pointer (some ⟨g, 0, none⟩)]] w (Shown w g (sideL tell A B)) := by
  subst hg
  have MK : ∀ {a : Option Addr} {n c : Nat} {l : List MkD} (h : RO mkC w1 a n c l), ∀ i, i < n → ∃ b off, a = some ⟨b, off, none⟩ ∧ b < w1.heap.size ∧ ∀ W, Below w1.heap.size w W → W.cell? ⟨b, off + i * 2, none⟩ = some (.int .u64 (l.getD i mk0).f) ∧ W.cell? ⟨b, off + i * 2 + 1, none⟩ = some (.string (l.getD i mk0).note) := fun h i hi => by
    obtain ⟨b, off, e, hb, x0, x1⟩ := mk_at h hi
    exact ⟨b, off, e, hb, fun W hW => ⟨((hw.trans hW).cell (p := ⟨b, off + i * 2, none⟩) hb).trans x0, ((hw.trans hW).cell (p := ⟨b, off + i * 2 + 1, none⟩) hb).trans x1⟩⟩
  have RA := Lib.hid (MK h1)
  have RB := Lib.hid (MK h2)
  have la := Lib.hid h1.len
  have lb := Lib.hid h2.len
  have SA := Lib.hid hS.a
  have SB := Lib.hid hS.b
  have SAB := Lib.hid hS.ab
  have ONE := Lib.hid hS.one
  have L0 := Lib.hid h
  have hma : (n1 : Int) ≤ 4096 := by omega
  have hmb : (n2 : Int) ≤ 4096 := by omega
  generalize w1.heap.size = g at *
  clear MK hw h1 h2 hS h
  go_enter Tryz.func40, Tryz.ntmps40
  go_wp2
  go_step3
  go_wp2
  go_step3
  go_wp2
  go_loopw [6, 7] (fun x y wr => ∃ (i j : Nat) (v : Value) (O : List MkD), i ≤ n1 ∧ j ≤ n2 ∧ x = .int .i64 i ∧ y = .int .i64 j ∧ O.length ≤ i + j ∧ Hid (LB wr g v O) ∧ Hid (Below g w wr) ∧ Hid (O ++ sideL tell (A.drop i) (B.drop j) = sideL tell A B)) (fun x y _ => (n1 - (intOf x).toNat) + (n2 - (intOf y).toNat))
  case atStart => exact ⟨0, 0, v0, [], Nat.zero_le _, Nat.zero_le _, rfl, rfl, by simp, L0, Lib.hid (Below.refl _ _), Lib.hid (by simp)⟩
  case round =>
    clear L0
    obtain ⟨i, j, v, O, hi, hj, rfl, rfl, hol, hL, hB, hO⟩ := hrel
    generalize wr = g0 at *
    have hol2 : O.length ≤ 100000 := by omega
    have hend := Lib.hid (fun (hi : A.length ≤ i) (hj : B.length ≤ j) => side_end tell hi hj)
    have hsa := Lib.hid (fun (hi : i < A.length) h => side_a tell (A := A) (B := B) (j := j) hi h)
    have hsb := Lib.hid (fun (hj : j < B.length) h => side_b tell (A := A) (B := B) (i := i) hj h)
    have hsab := Lib.hid (fun (hi : i < A.length) (hj : j < B.length) h1 h2 => side_both tell (A := A) (B := B) hi hj h1 h2)
    have hgg : g ≤ g0.heap.size := Nat.le_of_lt hL.out.blk.lt
    by_cases hin : i < n1
    · have hin1 : i ≠ n1 := by omega
      have hinz : (i : Int) < (n1 : Int) := by omega
      have hinb : ((i : Int) == (n1 : Int)) = false := by simp; omega
      obtain ⟨b1, o1, rfl, hbl1, hx⟩ := RA.out i hin
      obtain ⟨x0, x1⟩ := hx g0 hB.out
      have hX := Lib.hid (fun W hW => hx W (hB.out.trans hW))
      clear hx
      by_cases hjn : j < n2
      · have hjn1 : j ≠ n2 := by omega
        have hjnz : (j : Int) < (n2 : Int) := by omega
        have hjnb : ((j : Int) == (n2 : Int)) = false := by simp; omega
        obtain ⟨b2, o2, rfl, hbl2, hy⟩ := RB.out j hjn
        obtain ⟨y0, y1⟩ := hy g0 hB.out
        have hY := Lib.hid (fun W hW => hy W (hB.out.trans hW))
        clear hy
        have hsa' := Lib.hid (fun h => hsa.out (by rw [← la.out]; exact hin) (.inr ⟨by rw [← lb.out]; exact hjn, h⟩))
        have hsb' := Lib.hid (fun h => hsb.out (by rw [← lb.out]; exact hjn) (.inr ⟨by rw [← la.out]; exact hin, h⟩))
        have hsab' := Lib.hid (fun h1 h2 => hsab.out (by rw [← la.out]; exact hin) (by rw [← lb.out]; exact hjn) h1 h2)
        obtain ⟨⟨f1, s1⟩, hm1⟩ : ∃ u, A.getD i mk0 = (u : MkD) := ⟨_, rfl⟩
        obtain ⟨⟨f2, s2⟩, hm2⟩ : ∃ u, B.getD j mk0 = (u : MkD) := ⟨_, rfl⟩
        rw [hm1] at x0 x1 hX hsa' hsb' hsab'
        rw [hm2] at y0 y1 hY hsa' hsb' hsab'
        dsimp only at x0 x1 y0 y1 hX hY hsa' hsb' hsab'
        clear hm1 hm2 hsa hsb hsab hend
        by_cases hlt : f1 < f2
        · have hE := Lib.hid (hO.out.symm.trans (congrArg (O ++ ·) (hsa'.out hlt)))
          clear hsa' hsb' hsab' hO
          go_wp2
          go_quiet (fail)
          go_wp2
          have q0 : Below g0.heap.size g0 (g0.drewN nq) := Below.drewN (Below.refl _ _) nq
          generalize g0.drewN nq = G1 at *
          refine ((SA.out _ v O ⟨f1, s1⟩ hol2 (hL.out.below (q0.mono (Nat.le_refl _))))).mono ?_
          rintro e w9 ⟨rfl, b9, v9, L9⟩
          have L9' := Lib.hid L9
          have B9' := Lib.hid (hB.out.trans ((q0.mono hgg).trans b9))
          clear L9 b9 hL hB q0
          go_wp2
          go_roundw
          case rel => exact ⟨i + 1, j, v9, _, by omega, by omega, by first | rfl | go_num, by first | rfl | go_num, by rw [List.length_append]; have := ONE.out (some ⟨f1, s1⟩) none; omega, L9', B9', Lib.hid (by rw [List.append_assoc]; exact hE.out.symm)⟩
          case measure => simp [intOf]; omega
        · by_cases hgt : f2 < f1
          · have hE := Lib.hid (hO.out.symm.trans (congrArg (O ++ ·) (hsb'.out hgt)))
            clear hsa' hsb' hsab' hO
            go_wp2
            go_quiet (fail)
            generalize nq = m1 at *
            go_wp2
            go_quiet (fail)
            go_wp2
            have q0 : Below g0.heap.size g0 (g0.drewN (m1 + nq)) := Below.drewN (Below.refl _ _) _
            generalize g0.drewN (m1 + nq) = G1 at *
            refine ((SB.out _ v O ⟨f2, s2⟩ hol2 (hL.out.below (q0.mono (Nat.le_refl _))))).mono ?_
            rintro e w9 ⟨rfl, b9, v9, L9⟩
            have L9' := Lib.hid L9
            have B9' := Lib.hid (hB.out.trans ((q0.mono hgg).trans b9))
            clear L9 b9 hL hB q0
            go_wp2
            go_roundw
            case rel => exact ⟨i, j + 1, v9, _, by omega, by omega, by first | rfl | go_num, by first | rfl | go_num, by rw [List.length_append]; have := ONE.out none (some ⟨f2, s2⟩); omega, L9', B9', Lib.hid (by rw [List.append_assoc]; exact hE.out.symm)⟩
            case measure => simp [intOf]; omega
          · have hE := Lib.hid (hO.out.symm.trans (congrArg (O ++ ·) (hsab'.out hlt hgt)))
            have heq : f1 = f2 := by omega
            clear hsa' hsb' hsab' hO hlt hgt
            subst heq
            have hlt : ¬ f1 < f1 := by omega
            go_wp2
            go_quiet (fail)
            generalize nq = m1 at *
            go_wp2
            go_quiet (fail)
            go_wp2
            have q0 : Below g0.heap.size g0 ((g0.drewN m1).drewN nq) := Below.drewN (Below.drewN (Below.refl _ _) _) _
            clear x0 x1 y0 y1
            generalize (g0.drewN m1).drewN nq = G1 at *
            have hLd := Lib.hid (hL.out.below (q0.drew))
            have x0' : ∀ W, Below g G1 W → W.cell? ⟨b1, o1 + i * 2, none⟩ = some (.int .u64 f1) := fun W hW => (hX.out W ((q0.mono hgg).trans hW)).1
            have x1' : ∀ W, Below g G1 W → W.cell? ⟨b1, o1 + i * 2 + 1, none⟩ = some (.string s1) := fun W hW => (hX.out W ((q0.mono hgg).trans hW)).2
            have y0' : ∀ W, Below g G1 W → W.cell? ⟨b2, o2 + j * 2, none⟩ = some (.int .u64 f1) := fun W hW => (hY.out W ((q0.mono hgg).trans hW)).1
            have y1' : ∀ W, Below g G1 W → W.cell? ⟨b2, o2 + j * 2 + 1, none⟩ = some (.string s2) := fun W hW => (hY.out W ((q0.mono hgg).trans hW)).2
            refine wp_drawn_on (fun W => Below g G1 W) (by kernel_rfl) ((Below.refl _ _).drew) (fun hHeld => ?_)
            refine wT 0 (v := ?v1) rfl (by kernel_rfl) (fun _ _ _ h => h) ?h1 (by assumption) ?r1
            case h1 => (intro w hSw; (try dsimp only at hSw); go_simp; try with_reducible rfl)
            refine wT 1 (v := ?v2) rfl (by kernel_rfl) (fun _ _ _ h => h) ?h2 (by assumption) ?r2
            case h2 => (intro w hSw; (try dsimp only at hSw); go_simp; try with_reducible rfl)
            refine wT 2 (v := ?v3) rfl (by kernel_rfl) (fun _ _ _ h => h) ?h3 (by assumption) ?r3
            case h3 => (intro w hSw; (try dsimp only at hSw); go_simp; try with_reducible rfl)
            refine wT 3 (v := ?v4) rfl (by kernel_rfl) (fun _ _ _ h => h) ?h4 (by assumption) ?r4
            case h4 => (intro w hSw; (try dsimp only at hSw); go_simp; try with_reducible rfl)
            refine wT 4 (v := ?v5) rfl (by kernel_rfl) (fun _ _ _ h => h) ?h5 (by assumption) ?r5
            case h5 => (intro w hSw; (try dsimp only at hSw); go_simp; try with_reducible rfl)
            refine wT 5 (v := ?v6) rfl (by kernel_rfl) (fun _ _ _ h => h) ?h6 (by assumption) ?r6
            case h6 => (intro w hSw; (try dsimp only at hSw); go_simp; try with_reducible rfl)
            refine wT 6 (v := ?v7) rfl (by kernel_rfl) (fun _ _ _ h => h) ?h7 (by assumption) ?r7
            case h7 => (intro w hSw; (try dsimp only at hSw); go_simp; try with_reducible rfl)
            refine wT 7 (v := ?v8) rfl (by kernel_rfl) (fun _ _ _ h => h) ?h8 (by assumption) ?r8
            case h8 => (intro w hSw; (try dsimp only at hSw); go_simp; try with_reducible rfl)
            refine wT 8 (v := ?v9) rfl (by kernel_rfl) (fun _ _ _ h => h) ?h9 (by assumption) ?r9
            case h9 => (intro w hSw; (try dsimp only at hSw); go_simp; try with_reducible rfl)
            refine wT 9 (v := ?v10) rfl (by kernel_rfl) (fun _ _ _ h => h) ?h10 (by assumption) ?r10
            case h10 => (intro w hSw; (try dsimp only at hSw); go_simp; try with_reducible rfl)
            try simp only [Act.put, List.setIfInBounds_toArray, List.set_cons_zero, List.set_cons_succ]
            refine wpAnyH_ready (rs := [10]) (by kernel_rfl) (by simp) ?_
            refine AllReadyH.cons (o := ⟨_, _, _, _, _, _⟩) rfl (fun K hK => ?_) AllReadyH.nil
            go_simp
            refine (SAB.out _ v O ⟨f1, s1⟩ ⟨f1, s2⟩ hol2 rfl hLd.out).mono ?_
            rintro e w9 ⟨rfl, b9, v9, L9⟩
            go_simp
            refine hK.out _ _ (hHeld.trans b9) (fun hHeld => ?_)
            clear hK K
            try simp only [Act.put, List.setIfInBounds_toArray, List.set_cons_zero, List.set_cons_succ]
            refine wpAnyH_done (by kernel_rfl) ?_ _
            have L9' := Lib.hid L9
            have B9' := Lib.hid (hB.out.trans ((q0.mono hgg).trans hHeld))
            clear L9 b9 hL hB q0 hLd hHeld x0' x1' y0' y1'
            go_wp2
            go_roundw
            case rel => exact ⟨i + 1, j + 1, v9, _, by omega, by omega, by first | rfl | go_num, by first | rfl | go_num, by rw [List.length_append]; have := ONE.out (some ⟨f1, s1⟩) (some ⟨f1, s2⟩); omega, L9', B9', Lib.hid (by rw [List.append_assoc]; exact hE.out.symm)⟩
            case measure => simp [intOf]; omega
      · have hjn1 : j = n2 := by omega
        have hjnb : ((j : Int) == (n2 : Int)) = true := by simp; omega
        have hsa' := Lib.hid (hsa.out (by rw [← la.out]; exact hin) (.inl (by rw [← lb.out]; omega)))
        obtain ⟨⟨f1, s1⟩, hm1⟩ : ∃ u, A.getD i mk0 = (u : MkD) := ⟨_, rfl⟩
        rw [hm1] at x0 x1 hsa'
        dsimp only at x0 x1 hsa'
        have hE := Lib.hid (hO.out.symm.trans (congrArg (O ++ ·) hsa'.out))
        clear hm1 hsa hsb hsab hend hsa' hO
        go_wp2
        go_quiet (fail)
        go_wp2
        have q0 : Below g0.heap.size g0 (g0.drewN nq) := Below.drewN (Below.refl _ _) nq
        generalize g0.drewN nq = G1 at *
        refine ((SA.out _ v O ⟨f1, s1⟩ hol2 (hL.out.below (q0.mono (Nat.le_refl _))))).mono ?_
        rintro e w9 ⟨rfl, b9, v9, L9⟩
        have L9' := Lib.hid L9
        have B9' := Lib.hid (hB.out.trans ((q0.mono hgg).trans b9))
        clear L9 b9 hL hB q0
        go_wp2
        go_roundw
        case rel => exact ⟨i + 1, j, v9, _, by omega, by omega, by first | rfl | go_num, by first | rfl | go_num, by rw [List.length_append]; have := ONE.out (some ⟨f1, s1⟩) none; omega, L9', B9', Lib.hid (by rw [List.append_assoc]; exact hE.out.symm)⟩
        case measure => simp [intOf]; omega
    · have hin1 : i = n1 := by omega
      have hinb : ((i : Int) == (n1 : Int)) = true := by simp; omega
      have hinz : ¬ (i : Int) < (n1 : Int) := by omega
      by_cases hjn : j < n2
      · have hjnb : ((j : Int) == (n2 : Int)) = false := by simp; omega
        obtain ⟨b2, o2, rfl, hbl2, hy⟩ := RB.out j hjn
        obtain ⟨y0, y1⟩ := hy g0 hB.out
        clear hy
        have hsb' := Lib.hid (hsb.out (by rw [← lb.out]; exact hjn) (.inl (by rw [← la.out]; omega)))
        obtain ⟨⟨f2, s2⟩, hm2⟩ : ∃ u, B.getD j mk0 = (u : MkD) := ⟨_, rfl⟩
        rw [hm2] at y0 y1 hsb'
        dsimp only at y0 y1 hsb'
        have hE := Lib.hid (hO.out.symm.trans (congrArg (O ++ ·) hsb'.out))
        clear hm2 hsa hsb hsab hend hsb' hO
        go_wp2
        go_quiet (fail)
        generalize nq = m1 at *
        go_wp2
        go_quiet (fail)
        go_wp2
        have q0 : Below g0.heap.size g0 (g0.drewN (m1 + nq)) := Below.drewN (Below.refl _ _) _
        generalize g0.drewN (m1 + nq) = G1 at *
        refine ((SB.out _ v O ⟨f2, s2⟩ hol2 (hL.out.below (q0.mono (Nat.le_refl _))))).mono ?_
        rintro e w9 ⟨rfl, b9, v9, L9⟩
        have L9' := Lib.hid L9
        have B9' := Lib.hid (hB.out.trans ((q0.mono hgg).trans b9))
        clear L9 b9 hL hB q0
        go_wp2
        go_roundw
        case rel => exact ⟨i, j + 1, v9, _, by omega, by omega, by first | rfl | go_num, by first | rfl | go_num, by rw [List.length_append]; have := ONE.out none (some ⟨f2, s2⟩); omega, L9', B9', Lib.hid (by rw [List.append_assoc]; exact hE.out.symm)⟩
        case measure => simp [intOf]; omega
      · have hjnb : ((j : Int) == (n2 : Int)) = true := by simp; omega
        have hE := Lib.hid (hO.out.symm.trans (congrArg (O ++ ·) (hend.out (by rw [← la.out]; omega) (by rw [← lb.out]; omega))))
        clear hsa hsb hsab hend hO
        go_wp2
        go_end0
        exact ⟨rfl, hB.out, v, by rw [hE.out, List.append_nil]; exact hL.out⟩
end Go.Proofs.YtpchncpcckfghaaGreat
namespace Go.Proofs.YtpchncpcckfghaaGreat
open Go.RowKit
set_option linter.unusedVariables false
set_option linter.unusedSimpArgs false
set_option maxRecDepth 100000 in
set_option maxHeartbeats 4000000 in
theorem lessB_any (w : World) (g : Nat) (v : Value) (O : List MkD) (x y : MkD) (p : Bool) (h : LB w g v O) :
    Calls Tryz.prog 42 #[pairV x y p true, .pointer (some ⟨g, 0, none⟩)] w (Shown w g O) := by
  unfold pairV
  obtain ⟨V, hV⟩ : ∃ V, V = w.alloc (.cells #[.int .u64 x.f, .string x.note, .int .u64 y.f, .string y.note, .bool p, .bool true] 75) := ⟨_, rfl⟩
  have bV : Below w.heap.size w V := by rw [hV]; exact box_below _ _ _
  obtain ⟨gp, hgp⟩ : ∃ gp, gp = w.heap.size := ⟨_, rfl⟩
  have HP : Holds V gp 75 #[.int .u64 x.f, .string x.note, .int .u64 y.f, .string y.note, .bool p, .bool true] := by rw [hV, hgp]; exact Holds.new _ _ _
  have HL := Lib.hid (h.below bV)
  have hgl : g < w.heap.size := h.blk.lt
  have bV' := Lib.hid bV
  have hV' := Lib.hid hV
  have hgp' := Lib.hid hgp
  have p5 := HP.cell 5
  simp at p5
  clear h bV hV HP hgp
  go_enter Tryz.func42, Tryz.ntmps42
  go_upto_region 1 with (fail)
  rw [← hV'.out, ← hgp'.out]
  clear hV' hgp'
  go_wp2
  go_end0
  exact ⟨rfl, bV'.out.mono (Nat.le_of_lt hgl), _, HL.out⟩
set_option maxRecDepth 100000 in
set_option maxHeartbeats 4000000 in
theorem uniA_any (w : World) (g : Nat) (v : Value) (O : List MkD) (x y : MkD) (hO : O.length ≤ 100000) (h : LB w g v O) :
    Calls Tryz.prog 41 #[pairV x y true false, .pointer (some ⟨g, 0, none⟩)] w (Shown w g (O ++ [x])) := by
  unfold pairV
  obtain ⟨ao, co, rfl, -⟩ := mro_own h.own
  obtain ⟨V, hV⟩ : ∃ V, V = w.alloc (.cells #[.int .u64 x.f, .string x.note, .int .u64 y.f, .string y.note, .bool true, .bool false] 75) := ⟨_, rfl⟩
  have bV : Below w.heap.size w V := by rw [hV]; exact box_below _ _ _
  obtain ⟨gp, hgp⟩ : ∃ gp, gp = w.heap.size := ⟨_, rfl⟩
  have HP : Holds V gp 75 #[.int .u64 x.f, .string x.note, .int .u64 y.f, .string y.note, .bool true, .bool false] := by rw [hV, hgp]; exact Holds.new _ _ _
  have HL := h.below bV
  have hgl : g < w.heap.size := h.blk.lt
  have p0 := HP.cell 0
  have p1 := HP.cell 1
  simp [mk0] at p0 p1
  obtain ⟨V2, hV2⟩ : ∃ V2, V2 = V.alloc (.cells #[.int .u64 x.f, .string x.note] 40) := ⟨_, rfl⟩
  have bV2 : Below V.heap.size V V2 := by rw [hV2]; exact box_below _ _ _
  obtain ⟨gm, hgm⟩ : ∃ gm, gm = V.heap.size := ⟨_, rfl⟩
  have HM : Holds V2 gm 40 #[.int .u64 x.f, .string x.note] := by rw [hV2, hgm]; exact Holds.new _ _ _
  have HP2 := HP.below bV2 HP.lt
  have HL2 := Lib.hid (HL.below bV2)
  have HLW := Lib.hid (fun W hW => HL.below (W := W) hW)
  have bW2 := Lib.hid bV2
  have bW := Lib.hid bV
  have hgeq : V.heap.size ≤ gm := Nat.le_of_eq hgm.symm
  have hgl2 : g < V.heap.size := HL.blk.lt
  have bV' := Lib.hid ((bV.mono (Nat.le_of_lt hgl)).trans (bV2.mono (Nat.le_of_lt hgl2)))
  have hV' := Lib.hid hV
  have hgp' := Lib.hid hgp
  have hV2' := Lib.hid hV2
  have hgm' := Lib.hid hgm
  have hgmg : g < gm := by rw [hgm]; exact hgl2
  have hgmg' : gm ≠ g := by omega
  clear h bV hV HP hgp HL bV2 hV2 hgm
  go_enter Tryz.func41, Tryz.ntmps41
  go_upto_region 1 with (fail)
  rw [← hV'.out, ← hgp'.out]
  clear hV' hgp'
  go_upto_region 2 with (fail)
  rw [← hV2'.out, ← hgm'.out]
  clear hV2' hgm' p0 p1
  have p1 := HP2.cell 1
  have p2 := HP2.cell 2
  have p3 := HP2.cell 3
  have p4 := HP2.cell 4
  have p5 := HP2.cell 5
  simp [mk0] at p1 p2 p3 p4 p5
  clear HP2
  go_upto_region 4 with (fail)
  have c0 := HL2.out.blk.cell 0
  have m0 := HM.cell 0
  have m1 := HM.cell 1
  simp [mk0] at c0 m0 m1
  clear HM
  go_wp2_with
    (at_builtin
     go_loud (refine wpList_append_mkB V2 rfl (.tmp 24) (.tmp 26) rfl (g + 1) _ O.length O HL2.out.own HL2.out.blk.lt (x) rfl _ rfl rfl (by omega) ?_)
     intro v3 W3 o3 g3
     obtain ⟨a3, c3, rfl, -, -, -⟩ := seesC_own o3
     have hb := box_below V2 (mkC (x)).toArray 40
     have HL3 := HL2.out.below hb
     have hend := Lib.hid (HL3.told (t := x) o3 g3)
     have hendB := Lib.hid (bV'.out.trans ((hb.mono (Nat.le_of_lt HL2.out.blk.lt)).trans (HL3.told_below (v' := .slice a3 (O.length + 1) c3) g3)))
     have H3 := ho_grown HL3.blk g3 HL3.not
     have k0 := H3.cell 0
     have f0 := H3.free 0
     simp at k0
     clear o3 g3 hb HL3 H3)
  go_end0
  exact ⟨rfl, hendB.out, _, hend.out⟩
set_option maxRecDepth 100000 in
set_option maxHeartbeats 4000000 in
theorem uniB_any (w : World) (g : Nat) (v : Value) (O : List MkD) (y : MkD) (hO : O.length ≤ 100000) (h : LB w g v O) :
    Calls Tryz.prog 41 #[pairV mk0 y false true, .pointer (some ⟨g, 0, none⟩)] w (Shown w g (O ++ [y])) := by
  unfold pairV
  dsimp only [mk0]
  obtain ⟨ao, co, rfl, -⟩ := mro_own h.own
  obtain ⟨V, hV⟩ : ∃ V, V = w.alloc (.cells #[.int .u64 0, .string ⟨#[]⟩, .int .u64 y.f, .string y.note, .bool false, .bool true] 75) := ⟨_, rfl⟩
  have bV : Below w.heap.size w V := by rw [hV]; exact box_below _ _ _
  obtain ⟨gp, hgp⟩ : ∃ gp, gp = w.heap.size := ⟨_, rfl⟩
  have HP : Holds V gp 75 #[.int .u64 0, .string ⟨#[]⟩, .int .u64 y.f, .string y.note, .bool false, .bool true] := by rw [hV, hgp]; exact Holds.new _ _ _
  have HL := h.below bV
  have hgl : g < w.heap.size := h.blk.lt
  have p0 := HP.cell 0
  have p1 := HP.cell 1
  simp [mk0] at p0 p1
  obtain ⟨V2, hV2⟩ : ∃ V2, V2 = V.alloc (.cells #[.int .u64 0, .string ⟨#[]⟩] 40) := ⟨_, rfl⟩
  have bV2 : Below V.heap.size V V2 := by rw [hV2]; exact box_below _ _ _
  obtain ⟨gm, hgm⟩ : ∃ gm, gm = V.heap.size := ⟨_, rfl⟩
  have HM : Holds V2 gm 40 #[.int .u64 0, .string ⟨#[]⟩] := by rw [hV2, hgm]; exact Holds.new _ _ _
  have HP2 := HP.below bV2 HP.lt
  have HL2 := Lib.hid (HL.below bV2)
  have HLW := Lib.hid (fun W hW => HL.below (W := W) hW)
  have bW2 := Lib.hid bV2
  have bW := Lib.hid bV
  have hgeq : V.heap.size ≤ gm := Nat.le_of_eq hgm.symm
  have hgl2 : g < V.heap.size := HL.blk.lt
  have bV' := Lib.hid ((bV.mono (Nat.le_of_lt hgl)).trans (bV2.mono (Nat.le_of_lt hgl2)))
  have hV' := Lib.hid hV
  have hgp' := Lib.hid hgp
  have hV2' := Lib.hid hV2
  have hgm' := Lib.hid hgm
  have hgmg : g < gm := by rw [hgm]; exact hgl2
  have hgmg' : gm ≠ g := by omega
  clear h bV hV HP hgp HL bV2 hV2 hgm
  go_enter Tryz.func41, Tryz.ntmps41
  go_upto_region 1 with (fail)
  rw [← hV'.out, ← hgp'.out]
  clear hV' hgp'
  go_upto_region 2 with (fail)
  rw [← hV2'.out, ← hgm'.out]
  clear hV2' hgm' p0 p1
  have p1 := HP2.cell 1
  have p2 := HP2.cell 2
  have p3 := HP2.cell 3
  have p4 := HP2.cell 4
  have p5 := HP2.cell 5
  simp [mk0] at p1 p2 p3 p4 p5
  clear HP2
  go_upto_region 3 with (fail)
  go_upto_region 4 with
    (refine wpList_store_row rfl 40 (.tmp 3) (.tmp 23) rfl gm #[.int .u64 y.f, .string y.note] rfl rfl 40 #[.int .u64 0, .string ⟨#[]⟩] HM (by rw [info_mk]; rfl) rfl (by simp [Value.oneCell']) ?_
     have bS := Lib.hid (mk_setRow bW2.out hgeq #[.int .u64 y.f, .string y.note])
     have HS : Hid (Holds (V2.setRow gm #[.int .u64 y.f, .string y.note]) gm 40 #[.int .u64 y.f, .string y.note]) := Lib.hid (setRow_heap V2 gm #[.int .u64 0, .string ⟨#[]⟩] #[.int .u64 y.f, .string y.note] 40 (0, 0) HM)
     generalize V2.setRow gm #[.int .u64 y.f, .string y.note] = V3 at bS HS ⊢)
  replace HL2 := Lib.hid (HLW.out V3 bS.out)
  replace bV' := Lib.hid ((bW.out.mono (Nat.le_of_lt hgl)).trans (bS.out.mono (Nat.le_of_lt hgl2)))
  replace HM := HS.out
  clear HS HLW bW2 bW p1 p2 p3 p4 p5
  have c0 := HL2.out.blk.cell 0
  have m0 := HM.cell 0
  have m1 := HM.cell 1
  simp [mk0] at c0 m0 m1
  clear HM
  go_wp2_with
    (at_builtin
     go_loud (refine wpList_append_mkB V3 rfl (.tmp 24) (.tmp 26) rfl (g + 1) _ O.length O HL2.out.own HL2.out.blk.lt (y) rfl _ rfl rfl (by omega) ?_)
     intro v3 W3 o3 g3
     obtain ⟨a3, c3, rfl, -, -, -⟩ := seesC_own o3
     have hb := box_below V3 (mkC (y)).toArray 40
     have HL3 := HL2.out.below hb
     have hend := Lib.hid (HL3.told (t := y) o3 g3)
     have hendB := Lib.hid (bV'.out.trans ((hb.mono (Nat.le_of_lt HL2.out.blk.lt)).trans (HL3.told_below (v' := .slice a3 (O.length + 1) c3) g3)))
     have H3 := ho_grown HL3.blk g3 HL3.not
     have k0 := H3.cell 0
     have f0 := H3.free 0
     simp at k0
     clear o3 g3 hb HL3 H3)
  go_end0
  exact ⟨rfl, hendB.out, _, hend.out⟩
set_option maxRecDepth 100000 in
set_option maxHeartbeats 4000000 in
theorem uniAB_gt (w : World) (g : Nat) (v : Value) (O : List MkD) (x y : MkD) (hO : O.length ≤ 100000) (h : LB w g v O) (hgt : lt8 (byt x.note) (byt y.note) = true) :
    Calls Tryz.prog 41 #[pairV x y true true, .pointer (some ⟨g, 0, none⟩)] w (Shown w g (O ++ [y])) := by
  unfold pairV
  obtain ⟨hb1, hb2⟩ := gtr_yes hgt
  clear hgt
  obtain ⟨ao, co, rfl, -⟩ := mro_own h.own
  obtain ⟨V, hV⟩ : ∃ V, V = w.alloc (.cells #[.int .u64 x.f, .string x.note, .int .u64 y.f, .string y.note, .bool true, .bool true] 75) := ⟨_, rfl⟩
  have bV : Below w.heap.size w V := by rw [hV]; exact box_below _ _ _
  obtain ⟨gp, hgp⟩ : ∃ gp, gp = w.heap.size := ⟨_, rfl⟩
  have HP : Holds V gp 75 #[.int .u64 x.f, .string x.note, .int .u64 y.f, .string y.note, .bool true, .bool true] := by rw [hV, hgp]; exact Holds.new _ _ _
  have HL := h.below bV
  have hgl : g < w.heap.size := h.blk.lt
  have p0 := HP.cell 0
  have p1 := HP.cell 1
  simp [mk0] at p0 p1
  obtain ⟨V2, hV2⟩ : ∃ V2, V2 = V.alloc (.cells #[.int .u64 x.f, .string x.note] 40) := ⟨_, rfl⟩
  have bV2 : Below V.heap.size V V2 := by rw [hV2]; exact box_below _ _ _
  obtain ⟨gm, hgm⟩ : ∃ gm, gm = V.heap.size := ⟨_, rfl⟩
  have HM : Holds V2 gm 40 #[.int .u64 x.f, .string x.note] := by rw [hV2, hgm]; exact Holds.new _ _ _
  have HP2 := HP.below bV2 HP.lt
  have HL2 := Lib.hid (HL.below bV2)
  have HLW := Lib.hid (fun W hW => HL.below (W := W) hW)
  have bW2 := Lib.hid bV2
  have bW := Lib.hid bV
  have hgeq : V.heap.size ≤ gm := Nat.le_of_eq hgm.symm
  have hgl2 : g < V.heap.size := HL.blk.lt
  have bV' := Lib.hid ((bV.mono (Nat.le_of_lt hgl)).trans (bV2.mono (Nat.le_of_lt hgl2)))
  have hV' := Lib.hid hV
  have hgp' := Lib.hid hgp
  have hV2' := Lib.hid hV2
  have hgm' := Lib.hid hgm
  have hgmg : g < gm := by rw [hgm]; exact hgl2
  have hgmg' : gm ≠ g := by omega
  clear h bV hV HP hgp HL bV2 hV2 hgm
  go_enter Tryz.func41, Tryz.ntmps41
  go_upto_region 1 with (fail)
  rw [← hV'.out, ← hgp'.out]
  clear hV' hgp'
  go_upto_region 2 with (fail)
  rw [← hV2'.out, ← hgm'.out]
  clear hV2' hgm' p0 p1
  have p1 := HP2.cell 1
  have p2 := HP2.cell 2
  have p3 := HP2.cell 3
  have p4 := HP2.cell 4
  have p5 := HP2.cell 5
  simp [mk0] at p1 p2 p3 p4 p5
  clear HP2
  go_upto_region 3 with (fail)
  go_upto_region 4 with
    (refine wpList_store_row rfl 40 (.tmp 3) (.tmp 23) rfl gm #[.int .u64 y.f, .string y.note] rfl rfl 40 #[.int .u64 x.f, .string x.note] HM (by rw [info_mk]; rfl) rfl (by simp [Value.oneCell']) ?_
     have bS := Lib.hid (mk_setRow bW2.out hgeq #[.int .u64 y.f, .string y.note])
     have HS : Hid (Holds (V2.setRow gm #[.int .u64 y.f, .string y.note]) gm 40 #[.int .u64 y.f, .string y.note]) := Lib.hid (setRow_heap V2 gm #[.int .u64 x.f, .string x.note] #[.int .u64 y.f, .string y.note] 40 (0, 0) HM)
     generalize V2.setRow gm #[.int .u64 y.f, .string y.note] = V3 at bS HS ⊢)
  replace HL2 := Lib.hid (HLW.out V3 bS.out)
  replace bV' := Lib.hid ((bW.out.mono (Nat.le_of_lt hgl)).trans (bS.out.mono (Nat.le_of_lt hgl2)))
  replace HM := HS.out
  clear HS HLW bW2 bW p1 p2 p3 p4 p5
  have c0 := HL2.out.blk.cell 0
  have m0 := HM.cell 0
  have m1 := HM.cell 1
  simp [mk0] at c0 m0 m1
  clear HM
  go_wp2_with
    (at_builtin
     go_loud (refine wpList_append_mkB V3 rfl (.tmp 24) (.tmp 26) rfl (g + 1) _ O.length O HL2.out.own HL2.out.blk.lt (y) rfl _ rfl rfl (by omega) ?_)
     intro v3 W3 o3 g3
     obtain ⟨a3, c3, rfl, -, -, -⟩ := seesC_own o3
     have hb := box_below V3 (mkC (y)).toArray 40
     have HL3 := HL2.out.below hb
     have hend := Lib.hid (HL3.told (t := y) o3 g3)
     have hendB := Lib.hid (bV'.out.trans ((hb.mono (Nat.le_of_lt HL2.out.blk.lt)).trans (HL3.told_below (v' := .slice a3 (O.length + 1) c3) g3)))
     have H3 := ho_grown HL3.blk g3 HL3.not
     have k0 := H3.cell 0
     have f0 := H3.free 0
     simp at k0
     clear o3 g3 hb HL3 H3)
  go_end0
  exact ⟨rfl, hendB.out, _, hend.out⟩
set_option maxRecDepth 100000 in
set_option maxHeartbeats 4000000 in
theorem uniAB_le (w : World) (g : Nat) (v : Value) (O : List MkD) (x y : MkD) (hO : O.length ≤ 100000) (h : LB w g v O) (hb1 : Op.bytesLess y.note.toList x.note.toList = true) :
    Calls Tryz.prog 41 #[pairV x y true true, .pointer (some ⟨g, 0, none⟩)] w (Shown w g (O ++ [x])) := by
  unfold pairV
  obtain ⟨ao, co, rfl, -⟩ := mro_own h.own
  obtain ⟨V, hV⟩ : ∃ V, V = w.alloc (.cells #[.int .u64 x.f, .string x.note, .int .u64 y.f, .string y.note, .bool true, .bool true] 75) := ⟨_, rfl⟩
  have bV : Below w.heap.size w V := by rw [hV]; exact box_below _ _ _
  obtain ⟨gp, hgp⟩ : ∃ gp, gp = w.heap.size := ⟨_, rfl⟩
  have HP : Holds V gp 75 #[.int .u64 x.f, .string x.note, .int .u64 y.f, .string y.note, .bool true, .bool true] := by rw [hV, hgp]; exact Holds.new _ _ _
  have HL := h.below bV
  have hgl : g < w.heap.size := h.blk.lt
  have p0 := HP.cell 0
  have p1 := HP.cell 1
  simp [mk0] at p0 p1
  obtain ⟨V2, hV2⟩ : ∃ V2, V2 = V.alloc (.cells #[.int .u64 x.f, .string x.note] 40) := ⟨_, rfl⟩
  have bV2 : Below V.heap.size V V2 := by rw [hV2]; exact box_below _ _ _
  obtain ⟨gm, hgm⟩ : ∃ gm, gm = V.heap.size := ⟨_, rfl⟩
  have HM : Holds V2 gm 40 #[.int .u64 x.f, .string x.note] := by rw [hV2, hgm]; exact Holds.new _ _ _
  have HP2 := HP.below bV2 HP.lt
  have HL2 := Lib.hid (HL.below bV2)
  have HLW := Lib.hid (fun W hW => HL.below (W := W) hW)
  have bW2 := Lib.hid bV2
  have bW := Lib.hid bV
  have hgeq : V.heap.size ≤ gm := Nat.le_of_eq hgm.symm
  have hgl2 : g < V.heap.size := HL.blk.lt
  have bV' := Lib.hid ((bV.mono (Nat.le_of_lt hgl)).trans (bV2.mono (Nat.le_of_lt hgl2)))
  have hV' := Lib.hid hV
  have hgp' := Lib.hid hgp
  have hV2' := Lib.hid hV2
  have hgm' := Lib.hid hgm
  have hgmg : g < gm := by rw [hgm]; exact hgl2
  have hgmg' : gm ≠ g := by omega
  clear h bV hV HP hgp HL bV2 hV2 hgm
  go_enter Tryz.func41, Tryz.ntmps41
  go_upto_region 1 with (fail)
  rw [← hV'.out, ← hgp'.out]
  clear hV' hgp'
  go_upto_region 2 with (fail)
  rw [← hV2'.out, ← hgm'.out]
  clear hV2' hgm' p0 p1
  have p1 := HP2.cell 1
  have p2 := HP2.cell 2
  have p3 := HP2.cell 3
  have p4 := HP2.cell 4
  have p5 := HP2.cell 5
  simp [mk0] at p1 p2 p3 p4 p5
  clear HP2
  go_upto_region 4 with (fail)
  have c0 := HL2.out.blk.cell 0
  have m0 := HM.cell 0
  have m1 := HM.cell 1
  simp [mk0] at c0 m0 m1
  clear HM
  go_wp2_with
    (at_builtin
     go_loud (refine wpList_append_mkB V2 rfl (.tmp 24) (.tmp 26) rfl (g + 1) _ O.length O HL2.out.own HL2.out.blk.lt (x) rfl _ rfl rfl (by omega) ?_)
     intro v3 W3 o3 g3
     obtain ⟨a3, c3, rfl, -, -, -⟩ := seesC_own o3
     have hb := box_below V2 (mkC (x)).toArray 40
     have HL3 := HL2.out.below hb
     have hend := Lib.hid (HL3.told (t := x) o3 g3)
     have hendB := Lib.hid (bV'.out.trans ((hb.mono (Nat.le_of_lt HL2.out.blk.lt)).trans (HL3.told_below (v' := .slice a3 (O.length + 1) c3) g3)))
     have H3 := ho_grown HL3.blk g3 HL3.not
     have k0 := H3.cell 0
     have f0 := H3.free 0
     simp at k0
     clear o3 g3 hb HL3 H3)
  go_end0
  exact ⟨rfl, hendB.out, _, hend.out⟩
set_option maxRecDepth 100000 in
set_option maxHeartbeats 4000000 in
theorem uniAB_eq (w : World) (g : Nat) (v : Value) (O : List MkD) (x y : MkD) (hO : O.length ≤ 100000) (h : LB w g v O) (hb2 : (y.note.toList == x.note.toList) = true) :
    Calls Tryz.prog 41 #[pairV x y true true, .pointer (some ⟨g, 0, none⟩)] w (Shown w g (O ++ [x])) := by
  unfold pairV
  obtain ⟨ao, co, rfl, -⟩ := mro_own h.own
  obtain ⟨V, hV⟩ : ∃ V, V = w.alloc (.cells #[.int .u64 x.f, .string x.note, .int .u64 y.f, .string y.note, .bool true, .bool true] 75) := ⟨_, rfl⟩
  have bV : Below w.heap.size w V := by rw [hV]; exact box_below _ _ _
  obtain ⟨gp, hgp⟩ : ∃ gp, gp = w.heap.size := ⟨_, rfl⟩
  have HP : Holds V gp 75 #[.int .u64 x.f, .string x.note, .int .u64 y.f, .string y.note, .bool true, .bool true] := by rw [hV, hgp]; exact Holds.new _ _ _
  have HL := h.below bV
  have hgl : g < w.heap.size := h.blk.lt
  have p0 := HP.cell 0
  have p1 := HP.cell 1
  simp [mk0] at p0 p1
  obtain ⟨V2, hV2⟩ : ∃ V2, V2 = V.alloc (.cells #[.int .u64 x.f, .string x.note] 40) := ⟨_, rfl⟩
  have bV2 : Below V.heap.size V V2 := by rw [hV2]; exact box_below _ _ _
  obtain ⟨gm, hgm⟩ : ∃ gm, gm = V.heap.size := ⟨_, rfl⟩
  have HM : Holds V2 gm 40 #[.int .u64 x.f, .string x.note] := by rw [hV2, hgm]; exact Holds.new _ _ _
  have HP2 := HP.below bV2 HP.lt
  have HL2 := Lib.hid (HL.below bV2)
  have HLW := Lib.hid (fun W hW => HL.below (W := W) hW)
  have bW2 := Lib.hid bV2
  have bW := Lib.hid bV
  have hgeq : V.heap.size ≤ gm := Nat.le_of_eq hgm.symm
  have hgl2 : g < V.heap.size := HL.blk.lt
  have bV' := Lib.hid ((bV.mono (Nat.le_of_lt hgl)).trans (bV2.mono (Nat.le_of_lt hgl2)))
  have hV' := Lib.hid hV
  have hgp' := Lib.hid hgp
  have hV2' := Lib.hid hV2
  have hgm' := Lib.hid hgm
  have hgmg : g < gm := by rw [hgm]; exact hgl2
  have hgmg' : gm ≠ g := by omega
  clear h bV hV HP hgp HL bV2 hV2 hgm
  go_enter Tryz.func41, Tryz.ntmps41
  go_upto_region 1 with (fail)
  rw [← hV'.out, ← hgp'.out]
  clear hV' hgp'
  go_upto_region 2 with (fail)
  rw [← hV2'.out, ← hgm'.out]
  clear hV2' hgm' p0 p1
  have p1 := HP2.cell 1
  have p2 := HP2.cell 2
  have p3 := HP2.cell 3
  have p4 := HP2.cell 4
  have p5 := HP2.cell 5
  simp [mk0] at p1 p2 p3 p4 p5
  clear HP2
  go_upto_region 4 with (fail)
  have c0 := HL2.out.blk.cell 0
  have m0 := HM.cell 0
  have m1 := HM.cell 1
  simp [mk0] at c0 m0 m1
  clear HM
  go_wp2_with
    (at_builtin
     go_loud (refine wpList_append_mkB V2 rfl (.tmp 24) (.tmp 26) rfl (g + 1) _ O.length O HL2.out.own HL2.out.blk.lt (x) rfl _ rfl rfl (by omega) ?_)
     intro v3 W3 o3 g3
     obtain ⟨a3, c3, rfl, -, -, -⟩ := seesC_own o3
     have hb := box_below V2 (mkC (x)).toArray 40
     have HL3 := HL2.out.below hb
     have hend := Lib.hid (HL3.told (t := x) o3 g3)
     have hendB := Lib.hid (bV'.out.trans ((hb.mono (Nat.le_of_lt HL2.out.blk.lt)).trans (HL3.told_below (v' := .slice a3 (O.length + 1) c3) g3)))
     have H3 := ho_grown HL3.blk g3 HL3.not
     have k0 := H3.cell 0
     have f0 := H3.free 0
     simp at k0
     clear o3 g3 hb HL3 H3)
  go_end0
  exact ⟨rfl, hendB.out, _, hend.out⟩
end Go.Proofs.YtpchncpcckfghaaGreat
namespace Go.Proofs.YtpchncpcckfghaaGreat
open Go.RowKit
set_option linter.unusedVariables false
set_option linter.unusedSimpArgs false
theorem tellU_one : ∀ x y, (tellU x y).length ≤ 1
  | some _, some _ => by simp [tellU]
  | some _, none => by simp [tellU]
  | none, some _ => by simp [tellU]
  | none, none => by simp [tellU]
theorem tellL_one : ∀ x y, (tellL x y).length ≤ 1
  | some _, some _ => by simp [tellL]
  | some _, none => by simp [tellL]
  | none, some _ => by simp [tellL]
  | none, none => by simp [tellL]
theorem showL (g : Nat) : ShowS 42 g tellL :=
  ⟨fun w v O x hO h => lessA_any w g v O x mk0 hO h, fun w v O y hO h => by simpa [tellL] using lessB_any w g v O mk0 y false h, fun w v O x y hO he h => by simpa [tellL] using lessB_any w g v O x y true h, tellL_one⟩
def MkG2 (w : World) (l : List MkD) (err : Int) (e : Ending) (w' : World) : Prop := ∃ a c, e = .returned (.tuple #[.slice a l.length c, .int .i64 err]) ∧ RO mkC w' a l.length c l ∧ Below w.heap.size w w'
theorem showU (g : Nat) : ShowS 41 g tellU :=
  ⟨fun w v O x hO h => uniA_any w g v O x mk0 hO h, fun w v O y hO h => uniB_any w g v O y hO h, fun w v O x y hO he h => by
    cases hl : lt8 (byt x.note) (byt y.note) with
    | true =>
      have e : tellU (some x) (some y) = [y] := by unfold tellU maxN; simp only [hl, if_true]; rw [he]
      rw [e]
      exact uniAB_gt w g v O x y hO h hl
    | false =>
      have e : tellU (some x) (some y) = [x] := by unfold tellU maxN; simp [hl]
      rw [e]
      rcases gtr_no hl with hb | hb
      · exact uniAB_le w g v O x y hO h hb
      · exact uniAB_eq w g v O x y hO h (by rw [hb]; simp), tellU_one⟩
set_option maxRecDepth 100000 in
set_option maxHeartbeats 4000000 in
theorem bless_ok (w : World) (a1 a2 : Option Addr) (n1 n2 c1 c2 : Nat) (A B : List MkD) (hA : baseB A = true) (hB : baseB B = true) (h1 : RO mkC w a1 n1 c1 A) (h2 : RO mkC w a2 n2 c2 B) :
    Calls Tryz.prog 16 #[.slice a1 n1 c1, .slice a2 n2 c2] w (MkG2 w (lessL A B) 0) := by
  have q1 := btwo_any w a1 a2 n1 n2 c1 c2 A B h1 h2
  have e0 : btwo A B = 0 := by unfold btwo; rw [hA, if_pos rfl, bchk_yes hB]
  rw [e0] at q1
  have Q1 := Lib.hid q1
  have l1 := baseB_len hA
  have l2 := baseB_len hB
  have m1 := h1.len
  have m2 := h2.len
  have hQ := Lib.hid (fun w1 w2 g (hg : g = w1.heap.size) (hw : Below g w1 w2) (hb : Below w.heap.size w w1) v0 h => by
    have := beside_any 42 g tellL (showL g) (enters_of Tryz.func42 (by kernel_rfl) rfl) w1 w2 a1 a2 n1 n2 c1 c2 A B (by omega) (by omega) hg hw (h1.below hb) (h2.below hb) v0 h
    rw [side_less A B (baseB_rise hA) (baseB_rise hB)] at this
    exact this)
  clear q1 e0 hA hB h1 h2 l1 l2 m1 m2
  go_enter Tryz.func16, Tryz.ntmps16
  go_wp2_with fail
  refine Q1.out.mono ?_
  rintro e w1 ⟨rfl, b1⟩
  obtain ⟨V, hV⟩ : ∃ V, V = w1.alloc (.cells #[.slice none 0 0] 22) := ⟨_, rfl⟩
  obtain ⟨g, hg⟩ : ∃ g, g = w1.heap.size := ⟨_, rfl⟩
  have bV : Below g w1 V := by rw [hV, hg]; exact box_below _ _ _
  have L0 : LB V g (.slice none 0 0) [] := by rw [hV, hg]; exact ⟨Holds.new _ _ _, own_nil _ _ _ _⟩
  have Q := Lib.hid (hQ.out w1 V g hg bV b1 _ L0)
  have B1 := Lib.hid (show Below w.heap.size w w1 from b1)
  have hV' := Lib.hid hV
  have hg' := Lib.hid hg
  have bV' := Lib.hid bV
  clear Q1 hQ b1 hV bV L0 hg
  go_wp2_with fail
  rw [← hV'.out, ← hg'.out]
  refine Q.out.mono ?_
  rintro e w3 ⟨rfl, b3, v3, L3⟩
  obtain ⟨a3, c3, rfl, hro⟩ := mro_own L3.own
  have k0 := L3.blk.cell 0
  simp at k0
  have R3 := Lib.hid hro
  have B3 := Lib.hid (B1.out.trans ((bV'.out.trans b3).mono (by rw [hg'.out]; exact B1.out.size)))
  clear L3 hro b3 Q
  go_wp2
  exact bodyPost_ret (results_tmp2 rfl _ _ _) rfl ⟨a3, c3, rfl, R3.out, B3.out⟩
set_option maxRecDepth 100000 in
set_option maxHeartbeats 4000000 in
theorem bunion_ok (w : World) (a1 a2 : Option Addr) (n1 n2 c1 c2 : Nat) (A B : List MkD) (hl : ¬ 1024 < (mergeL A B).length) (hA : baseB A = true) (hB : baseB B = true) (h1 : RO mkC w a1 n1 c1 A) (h2 : RO mkC w a2 n2 c2 B) :
    Calls Tryz.prog 15 #[.slice a1 n1 c1, .slice a2 n2 c2] w (MkG2 w (mergeL A B) 0) := by
  have q1 := btwo_any w a1 a2 n1 n2 c1 c2 A B h1 h2
  have e0 : btwo A B = 0 := by unfold btwo; rw [hA, if_pos rfl, bchk_yes hB]
  rw [e0] at q1
  have Q1 := Lib.hid q1
  have l1 := baseB_len hA
  have l2 := baseB_len hB
  have m1 := h1.len
  have m2 := h2.len
  have hQ := Lib.hid (fun w1 w2 g (hg : g = w1.heap.size) (hw : Below g w1 w2) (hb : Below w.heap.size w w1) v0 h => by
    have := beside_any 41 g tellU (showU g) (enters_of Tryz.func41 (by kernel_rfl) rfl) w1 w2 a1 a2 n1 n2 c1 c2 A B (by omega) (by omega) hg hw (h1.below hb) (h2.below hb) v0 h
    rw [side_union A B] at this
    exact this)
  clear q1 e0 hA hB h1 h2 l1 l2 m1 m2
  go_enter Tryz.func15, Tryz.ntmps15
  go_wp2_with fail
  refine Q1.out.mono ?_
  rintro e w1 ⟨rfl, b1⟩
  obtain ⟨V, hV⟩ : ∃ V, V = w1.alloc (.cells #[.slice none 0 0] 22) := ⟨_, rfl⟩
  obtain ⟨g, hg⟩ : ∃ g, g = w1.heap.size := ⟨_, rfl⟩
  have bV : Below g w1 V := by rw [hV, hg]; exact box_below _ _ _
  have L0 : LB V g (.slice none 0 0) [] := by rw [hV, hg]; exact ⟨Holds.new _ _ _, own_nil _ _ _ _⟩
  have Q := Lib.hid (hQ.out w1 V g hg bV b1 _ L0)
  have B1 := Lib.hid (show Below w.heap.size w w1 from b1)
  have hV' := Lib.hid hV
  have hg' := Lib.hid hg
  have bV' := Lib.hid bV
  clear Q1 hQ b1 hV bV L0 hg
  go_wp2_with fail
  rw [← hV'.out, ← hg'.out]
  refine Q.out.mono ?_
  rintro e w3 ⟨rfl, b3, v3, L3⟩
  obtain ⟨a3, c3, rfl, hro⟩ := mro_own L3.own
  have k0 := L3.blk.cell 0
  simp at k0
  have R3 := Lib.hid hro
  have B3 := Lib.hid (B1.out.trans ((bV'.out.trans b3).mono (by rw [hg'.out]; exact B1.out.size)))
  clear L3 hro b3 Q
  have hlz : ¬ (1024 : Int) < ((mergeL A B).length : Int) := by omega
  clear hl
  go_wp2
  exact bodyPost_ret (results_tmp2 rfl _ _ _) rfl ⟨a3, c3, rfl, R3.out, B3.out⟩
end Go.Proofs.YtpchncpcckfghaaGreat
namespace Go.Proofs.YtpchncpcckfghaaGreat
open Go.RowKit
set_option linter.unusedVariables false
set_option linter.unusedSimpArgs false
structure Two {α : Type} (enc : α → List Value) (e : TypeId) (k : Nat) (w0 w : World) (v1 v2 : Value) (l1 l2 : List α) : Prop where
  o1 : w.ownsRow w0.heap.size e k v1 l1.length (l1.flatMap enc)
  o2 : w.ownsRow w0.heap.size e k v2 l2.length (l2.flatMap enc)
  b : Below w0.heap.size w0 w
  ne : ∀ q, v1.ownBlock = some q → v2.ownBlock = some q → False
theorem Two.symm {α : Type} {enc : α → List Value} {e : TypeId} {k : Nat} {w0 w : World} {v1 v2 : Value} {l1 l2 : List α} (h : Two enc e k w0 w v1 v2 l1 l2) : Two enc e k w0 w v2 v1 l2 l1 := ⟨h.o2, h.o1, h.b, fun q a c => h.ne q c a⟩
theorem Two.nil {α : Type} (enc : α → List Value) (e : TypeId) (k : Nat) (w : World) : Two enc e k w w (.slice none 0 0) (.slice none 0 0) [] [] := ⟨own_nil _ _ _ _, own_nil _ _ _ _, Below.refl _ _, by intro q h; cases h⟩
theorem Two.below {α : Type} {enc : α → List Value} {e : TypeId} {k : Nat} {w0 w W : World} {v1 v2 : Value} {l1 l2 : List α} (h : Two enc e k w0 w v1 v2 l1 l2) (hb : Below w.heap.size w W) : Two enc e k w0 W v1 v2 l1 l2 :=
  ⟨own_below h.o1 hb, own_below h.o2 hb, h.b.trans (hb.mono h.b.size), h.ne⟩
theorem wpList_append_two1 {P : Program} {α : Type} {enc : α → List Value} {e t : TypeId} {k bytes : Nat} {ops : Array Oper} {rest : List Oper} {o : Oper} {a : Act} {Q : Exit → Act → World → Prop} (w : World) (hg : o.guard = none) (s x : Operand)
    (hop : o.op = Op.call { callee := Callee.builtin Builtin.append, args := #[s, x], argTypes := #[t, t] })
    (i : TypeInfo) (z : Value) (ht : P.underlying t = some (.slice e)) (hi : P.info? e = some i) (hz : i.zero = some z) (hsize : i.size = k) (hby : i.bytes = bytes) (hzs : z.cells.size = k) (hk0 : 0 < k) (hk : ∀ x, (enc x).length = k) (hbs : bytes ≤ 200) (h1c : ∀ x, ∀ u ∈ enc x, u.oneCell' = true)
    (w0 : World) (v1 v2 : Value) (l1 l2 : List α) (h : Two enc e k w0 w v1 v2 l1 l2) (y : α) (cs : Array Value) (hcs : cs.toList = enc y)
    (hsv : a.eval s = v1) (hg2 : Nat) (hx : a.eval x = .slice (some ⟨hg2, 0, none⟩) 1 1) (hh : hg2 = w.heap.size) (hn : l1.length ≤ 1000000)
    (hK : ∀ v' w', Two enc e k w0 w' v' v2 (l1 ++ [y]) l2 → wpList P ops Q rest (a.put o.dst v') w') :
    wpList P ops Q (o :: rest) a (w.alloc (.cells cs e)) := by
  subst hh
  have hb1 : Below w.heap.size w (w.alloc (.cells cs e)) := (Below.refl _ _).alloc (Nat.le_refl _) _
  have hS := seesC_lit w e cs
  rw [hcs] at hS
  have hbb : (l1.length + 1) * bytes ≤ 140737488355328 := by
    have : (l1.length + 1) * bytes ≤ 1000001 * 200 := Nat.mul_le_mul (by omega) hbs
    omega
  obtain ⟨v', w', hrun, g1, g2, g3⟩ := run_append_cellsB (P := P) (w.alloc (.cells cs e)) w0.heap.size t o.type e i z k bytes ht hi hz hsize hby hzs hk0 v1 l1.length (l1.flatMap enc) (own_below h.o1 hb1) _ _ 1 1 (enc y) (by rw [hk]; omega) hS (fun u hu => h1c y u hu) (by unfold maxLen; omega) hbb (Nat.le_trans h.b.size hb1.size)
  refine wpList_plain hg fun K hK' => ?_
  unfold Oper.wp
  simp [execOp, hop, resolve, invoke, builtin, hsv, hx, hrun, Result.andThen]
  have hb2 := h.b.trans (hb1.mono h.b.size)
  have hlt := fun q hq => (h.o2.lt q hq).2
  have hks : v2.ownBlock = none ∨ v2.ownBlock ≠ v1.ownBlock := by
    cases ee : v2.ownBlock with
    | none => exact .inl rfl
    | some q => exact .inr fun e2 => h.ne q e2.symm ee
  refine hK' _ _ (hK v' w' ⟨by rw [List.flatMap_append, List.length_append]; simpa using g1, (own_below h.o2 hb1).kept g2 hks, hb2.grown g2 hb2.size fun q hq => (h.o1.lt q hq).1, ?_⟩)
  intro q e1 e2
  rcases g3 with g3 | g3
  · exact h.ne q (g3 ▸ e1) e2
  · rw [g3] at e1
    injection e1 with e1
    have := hlt q e2
    have := hb1.size
    omega
end Go.Proofs.YtpchncpcckfghaaGreat
namespace Go.Proofs.YtpchncpcckfghaaGreat
open Go.RowKit
set_option linter.unusedVariables false
def partL {α : Type} (d : α) (p : Nat → Bool) (b : Bool) (l : List α) : Nat → List α
  | 0 => []
  | k + 1 => partL d p b l k ++ if p k = b then [l.getD k d] else []
theorem apl_len {α : Type} (d : α) (p : Nat → Bool) (b : Bool) (l : List α) : ∀ k, (partL d p b l k).length ≤ k
  | 0 => Nat.le_refl _
  | k + 1 => by
    have := apl_len d p b l k
    unfold partL
    split <;> simp <;> omega
theorem apl_yes {α : Type} {d : α} {p : Nat → Bool} {l : List α} {k : Nat} (h : p k = true) : partL d p true l (k + 1) = partL d p true l k ++ [l.getD k d] ∧ partL d p false l (k + 1) = partL d p false l k := by
  simp [partL, h]
theorem apl_no {α : Type} {d : α} {p : Nat → Bool} {l : List α} {k : Nat} (h : p k = false) : partL d p true l (k + 1) = partL d p true l k ∧ partL d p false l (k + 1) = partL d p false l k ++ [l.getD k d] := by
  simp [partL, h]
def PartE {α : Type} (enc : α → List Value) (T : TypeId) (q : Nat) (d : α) (p : Nat → Bool) (l : List α) (n : Nat) (w : World) (e : Ending) (w' : World) : Prop :=
  ∃ v1 v2, e = .returned (.tuple #[v1, v2]) ∧ Two enc T q w w' v1 v2 (partL d p true l n) (partL d p false l n)
end Go.Proofs.YtpchncpcckfghaaGreat
namespace Go.Proofs.YtpchncpcckfghaaGreat
open Go.RowKit Go.ChangeShapes Go.WideShapes Go.Deep
set_option linter.unusedVariables false
set_option linter.unusedSimpArgs false
def alC (a : AlD) : List Value := [.int .i64 a.kind, .int .i64 a.sev, .string a.fn, .string a.file, .int .i64 a.line, .string a.expr]
def al0 : AlD := ⟨0, 0, ByteArray.empty, ByteArray.empty, 0, ByteArray.empty⟩
theorem alC_len (a : AlD) : (alC a).length = 6 := rfl
def alW (a : AlD) : Prop := (Lit.int .i64 a.kind).wf = true ∧ (Lit.int .i64 a.sev).wf = true ∧ a.fn.size ≤ 140737488351232 ∧ a.file.size ≤ 140737488351232 ∧ (Lit.int .i64 a.line).wf = true ∧ a.expr.size ≤ 140737488351232
def AlSl (w : World) (a : Option Addr) (n c : Nat) : Prop := ∃ l, RO alC w a n c l ∧ (∀ s ∈ l, alW s) ∧ n ≤ 1954687338211
theorem al_bytes : Tryz.prog.bytesOf 54 = 72 := by kernel_rfl
theorem al_row {H : Type} {enc : TypeId × Value → H} {w : World} {fuel : Nat} {r : Option Addr} {len cap : Nat} {x : DataW H × List MemPlace}
    (h : DataW.trod enc Tryz.prog w 0 (fun _ => true) true fuel 23 [.slice r len cap] = some x) (hR : Reach Tryz.prog 23 x.1) : AlSl w r len cap := by
  obtain ⟨h1, h2, h3⟩ := flat_row 2 [3, 3, 9, 9, 3, 9] Tryz.underlying23 (by kernel_rfl) (by kernel_rfl) (by kernel_rfl) (by decide) h hR
  have hn : len ≤ 1954687338211 := by
    rcases h3 with rfl | ⟨hb, _⟩
    · omega
    · rw [al_bytes] at hb; omega
  obtain ⟨l, g1, g2⟩ := row_of (w := w) (r := r) (len := len) (cap := cap) alC 6 alC_len (by decide) alW al0 h1 h2 (by
    rcases h3 with rfl | ⟨_, b, off, rfl, hB, hc⟩
    · exact .inl rfl
    · refine .inr ⟨b, off, rfl, hB, fun i hi => ?_⟩
      obtain ⟨v0, y0, m0, c0, t0, r0⟩ := hc i hi 0 _ rfl
      obtain ⟨v1, y1, m1, c1, t1, r1⟩ := hc i hi 1 _ rfl
      obtain ⟨v2, y2, m2, c2, t2, r2⟩ := hc i hi 2 _ rfl
      obtain ⟨v3, y3, m3, c3, t3, r3⟩ := hc i hi 3 _ rfl
      obtain ⟨v4, y4, m4, c4, t4, r4⟩ := hc i hi 4 _ rfl
      obtain ⟨v5, y5, m5, c5, t5, r5⟩ := hc i hi 5 _ rfl
      obtain ⟨z0, e0', _, w0⟩ := DataW.trod_int Tryz.underlying3 t0
      obtain ⟨z1, e1, _, w1⟩ := DataW.trod_int Tryz.underlying3 t1
      obtain ⟨z2, e2, ez2, _⟩ := DataW.trod_string Tryz.underlying9 t2
      obtain ⟨z3, e3, ez3, _⟩ := DataW.trod_string Tryz.underlying9 t3
      obtain ⟨z4, e4, _, w4⟩ := DataW.trod_int Tryz.underlying3 t4
      obtain ⟨z5, e5, ez5, _⟩ := DataW.trod_string Tryz.underlying9 t5
      simp at e0' e1 e2 e3 e4 e5
      subst e0' e1 e2 e3 e4 e5
      subst ez2 ez3 ez5
      refine ⟨⟨z0, z1, z2, z3, z4, z5⟩, ⟨w0, w1, reach_string r2, reach_string r3, w4, reach_string r5⟩, fun j hj => ?_⟩
      match j, hj with
      | 0, _ => exact c0
      | 1, _ => exact c1
      | 2, _ => exact c2
      | 3, _ => exact c3
      | 4, _ => exact c4
      | 5, _ => exact c5)
  exact ⟨l, g1, g2, hn⟩
theorem al_at {w : World} {a : Option Addr} {n c : Nat} {l : List AlD} (h : RO alC w a n c l) {i : Nat} (hi : i < n) :
    ∃ b off, a = some ⟨b, off, none⟩ ∧ b < w.heap.size ∧ w.cell? ⟨b, off + i * 6, none⟩ = some (.int .i64 (l.getD i al0).kind) ∧ w.cell? ⟨b, off + i * 6 + 1, none⟩ = some (.int .i64 (l.getD i al0).sev) ∧ w.cell? ⟨b, off + i * 6 + 2, none⟩ = some (.string (l.getD i al0).fn) ∧ w.cell? ⟨b, off + i * 6 + 3, none⟩ = some (.string (l.getD i al0).file) ∧ w.cell? ⟨b, off + i * 6 + 4, none⟩ = some (.int .i64 (l.getD i al0).line) ∧ w.cell? ⟨b, off + i * 6 + 5, none⟩ = some (.string (l.getD i al0).expr) := by
  obtain ⟨b, off, h1, h2, h3⟩ := h.at_ alC_len (by decide) al0 hi
  exact ⟨b, off, h1, h2, h3 0 (by decide), h3 1 (by decide), h3 2 (by decide), h3 3 (by decide), h3 4 (by decide), h3 5 (by decide)⟩
def bigOne (a : AlD) : Bool := decide (300 < a.fn.size) || (decide (300 < a.file.size) || decide (300 < a.expr.size))
def bigA (l : List AlD) : Bool := decide (100 < l.length) || l.any bigOne
def smallA (a : AlD) : Prop := a.fn.size ≤ 300 ∧ a.file.size ≤ 400 ∧ a.expr.size ≤ 300
theorem small_of {l : List AlD} (h : bigA l = false) : l.length ≤ 100 ∧ ∀ a ∈ l, a.fn.size ≤ 300 ∧ a.file.size ≤ 300 ∧ a.expr.size ≤ 300 := by
  unfold bigA at h
  simp only [Bool.or_eq_false_iff, decide_eq_false_iff_not, List.any_eq_false] at h
  refine ⟨by omega, fun a ha => ?_⟩
  have := h.2 a ha
  unfold bigOne at this
  simp at this
  exact ⟨by omega, by omega, by omega⟩
end Go.Proofs.YtpchncpcckfghaaGreat
namespace Go.Proofs.YtpchncpcckfghaaGreat
open Go.RowKit
set_option linter.unusedVariables false
set_option linter.unusedSimpArgs false
theorem aany_yes {α : Type} {q : α → Bool} {l : List α} {d : α} {k : Nat} (hk : k < l.length) (h : q (l.getD k d) = true) : l.any q = true := by
  rw [List.any_eq_true]
  exact ⟨l.getD k d, by simp [List.getD, hk], h⟩
theorem aany_no {α : Type} {q : α → Bool} {l : List α} (d : α) (h : ∀ t, t < l.length → q (l.getD t d) = false) : l.any q = false := by
  rw [List.any_eq_false]
  intro x hx
  obtain ⟨t, ht, rfl⟩ := List.getElem_of_mem hx
  have := h t ht
  simpa [List.getD, ht] using this
set_option maxRecDepth 100000 in
set_option maxHeartbeats 4000000 in
theorem alarge_any (l : List AlD) (a : Option Addr) (n c : Nat) (w : World) (h : RO alC w a n c l) (hW : ∀ s ∈ l, alW s) : Calls Tryz.prog 9 #[.slice a n c] w fun e w' => e = .returned (.bool (bigA l)) ∧ w = w' := by
  have hlen := h.len
  have hm : (n : Int) ≤ 9223372036854775807 := by have := h.max'; omega
  have hR : Hid (bigA l = (decide (100 < n) || l.any bigOne)) := Lib.hid (by unfold bigA; rw [hlen])
  have hw : Hid (∀ k, k < n → alW (l.getD k al0)) := Lib.hid (fun k hk => hW _ (by rw [hlen] at hk; simp [List.getD, hk]))
  have S := Lib.hid h
  have ys := Lib.hid (fun k (hk : k < n) h => aany_yes (q := bigOne) (l := l) (d := al0) (k := k) (by rw [← hlen]; exact hk) h)
  have ns := Lib.hid (fun (h : ∀ t, t < n → bigOne (l.getD t al0) = false) => aany_no (q := bigOne) (l := l) al0 (by rw [← hlen]; exact h))
  clear h hW hlen
  generalize bigA l = R at *
  generalize l.any bigOne = bs at *
  by_cases g0 : 100 < n
  · have ig0 : (100 : Int) < (n : Int) := by omega
    have hf : Hid (R = true) := Lib.hid (by rw [hR.out, decide_eq_true g0]; simp)
    go_enter Tryz.func9, Tryz.ntmps9
    go_wp2
    go_ret
    exact ⟨by rw [hf.out]; try rfl, rfl⟩
  have ig0 : ¬ (100 : Int) < (n : Int) := by omega
  have hR2 : Hid (R = bs) := Lib.hid (by rw [hR.out, decide_eq_false g0]; rfl)
  clear hR
  go_enter Tryz.func9, Tryz.ntmps9
  go_wp2
  go_loop [3] (fun y => ∃ k : Nat, k ≤ n ∧ y = .int .i64 k ∧ Hid (∀ t, t < k → bigOne (l.getD t al0) = false)) (fun y => n - (intOf y).toNat)
  case atStart => exact ⟨0, Nat.zero_le _, rfl, Lib.hid (fun t ht => by omega)⟩
  case round =>
    obtain ⟨k, hk, rfl, hal⟩ := hrel
    by_cases hlt : k < n
    · have hki : (k : Int) < (n : Int) := by omega
      obtain ⟨b, off, rfl, -, x0, x1, x2, x3, x4, x5⟩ := al_at S.out hlt
      obtain ⟨-, -, z2, z3, -, z5⟩ := hw.out k hlt
      have hy := Lib.hid (ys.out k hlt)
      have hn : Hid (bigOne (l.getD k al0) = false → ∀ t, t < k + 1 → bigOne (l.getD t al0) = false) := Lib.hid (fun h t ht => by
        by_cases e : t = k
        · rw [e]; exact h
        · exact hal.out t (by omega))
      clear hal ys x0 x1 x4
      have hb : Hid (∀ q, bigOne (l.getD k al0) = q ↔ (decide (300 < (l.getD k al0).fn.size) || (decide (300 < (l.getD k al0).file.size) || decide (300 < (l.getD k al0).expr.size))) = q) := Lib.hid (fun q => by unfold bigOne; exact Iff.rfl)
      generalize bigOne (l.getD k al0) = B at *
      generalize (l.getD k al0).fn = s2 at *
      generalize (l.getD k al0).file = s3 at *
      generalize (l.getD k al0).expr = s5 at *
      by_cases c2 : 300 < s2.size
      · have ic2 : (300 : Int) < (s2.size : Int) := by omega
        have hB : Hid (R = true) := Lib.hid (by rw [hR2.out]; exact hy.out ((hb.out true).2 (by simp [c2])))
        clear hb hn hy
        go_wp2
        go_ret
        exact ⟨by rw [hB.out]; try rfl, rfl⟩
      have ic2 : ¬ (300 : Int) < (s2.size : Int) := by omega
      by_cases c3 : 300 < s3.size
      · have ic3 : (300 : Int) < (s3.size : Int) := by omega
        have hB : Hid (R = true) := Lib.hid (by rw [hR2.out]; exact hy.out ((hb.out true).2 (by simp [c3])))
        clear hb hn hy
        go_wp2
        go_ret
        exact ⟨by rw [hB.out]; try rfl, rfl⟩
      have ic3 : ¬ (300 : Int) < (s3.size : Int) := by omega
      by_cases c5 : 300 < s5.size
      · have ic5 : (300 : Int) < (s5.size : Int) := by omega
        have hB : Hid (R = true) := Lib.hid (by rw [hR2.out]; exact hy.out ((hb.out true).2 (by simp [c5])))
        clear hb hn hy
        go_wp2
        go_ret
        exact ⟨by rw [hB.out]; try rfl, rfl⟩
      have ic5 : ¬ (300 : Int) < (s5.size : Int) := by omega
      have hn' := Lib.hid (hn.out ((hb.out false).2 (by simp [c2, c3, c5])))
      clear hb hn hy
      go_wp2
      go_round
      case rel => exact ⟨k + 1, by omega, by go_num, hn'⟩
      case measure => simp [intOf]; omega
    · obtain rfl : k = n := by omega
      have hki : ¬ (k : Int) < (k : Int) := by omega
      have hB : Hid (R = false) := Lib.hid (by rw [hR2.out]; exact ns.out hal.out)
      clear hal ns ys
      go_wp2
      go_ret
      exact ⟨by rw [hB.out]; try rfl, rfl⟩
end Go.Proofs.YtpchncpcckfghaaGreat
namespace Go.Proofs.YtpchncpcckfghaaGreat
open Go.RowKit
set_option linter.unusedVariables false
set_option linter.unusedSimpArgs false
theorem infoAl : (Tryz.prog.info? 54).map (fun i => (i.zero.map fun z => z.cells.size, i.size, i.bytes)) = some (some 6, 6, 72) := by kernel_rfl
theorem infoAlZ : ∃ i z, Tryz.prog.info? 54 = some i ∧ i.zero = some z ∧ i.size = 6 ∧ i.bytes = 72 ∧ z.cells.size = 6 := by
  have h := infoAl
  cases hi : Tryz.prog.info? 54 with
  | none => rw [hi] at h; simp at h
  | some i =>
    rw [hi] at h
    simp at h
    obtain ⟨⟨z, hz, h1⟩, h2, h3⟩ := h
    exact ⟨i, z, rfl, hz, h2, h3, h1⟩
def alcells (l : List AlD) : List Value := l.flatMap alC
theorem alcells_one {l : List AlD} {u : Value} (h : u ∈ alcells l) : u.oneCell' = true := by
  obtain ⟨a, _, ha⟩ := List.mem_flatMap.1 h
  simp [alC] at ha
  rcases ha with rfl | rfl | rfl | rfl | rfl | rfl <;> rfl
end Go.Proofs.YtpchncpcckfghaaGreat
namespace Go.Proofs.YtpchncpcckfghaaGreat
open Go.RowKit
set_option linter.unusedVariables false
set_option linter.unusedSimpArgs false
theorem info_alS : (Tryz.prog.info? 54).map (·.size) = some 6 := by kernel_rfl
set_option maxRecDepth 100000 in
set_option maxHeartbeats 8000000 in
theorem apartAl_any (f : Nat) (cb : Array Value) (p : Nat → Bool) (w : World) (a : Option Addr) (n c : Nat) (l : List AlD) (hn : n ≤ 100000) (h : RO alC w a n c l)
    (ef : ∀ args w, (callFunc f args).run Tryz.prog w = .ok (.enter f args) w) (hf : ∀ W, Below w.heap.size w W → ∀ k, k < n → Calls Tryz.prog f (#[.int .i64 (k : Nat), .agg (alC (l.getD k al0)).toArray] ++ cb) W (Gives (.bool (p k)) W)) :
    Calls Tryz.prog 33 #[.slice a n c, .func (.func f) #[] cb] w (PartE alC 54 6 al0 p l n w) := by
  have hlen := Lib.hid h.len
  have RW := Lib.hid h
  have hF := Lib.hid hf
  have hll := Lib.hid (fun b k => apl_len al0 p b l k)
  have hyes := Lib.hid (fun k h => apl_yes (d := al0) (p := p) (l := l) (k := k) h)
  have hno := Lib.hid (fun k h => apl_no (d := al0) (p := p) (l := l) (k := k) h)
  have T0 := Lib.hid (show Two alC 54 6 w w (.slice none 0 0) (.slice none 0 0) (partL al0 p true l 0) (partL al0 p false l 0) from Two.nil _ _ _ _)
  obtain ⟨i0, zz, hi, hz, h6, h72, hz6⟩ := infoAlZ
  clear h hf
  go_enter Tryz.func33, Tryz.ntmps33
  go_wp2
  go_loopw [4, 5, 10] (fun v1 v2 x wr => ∃ k : Nat, k ≤ n ∧ x = .int .i64 k ∧ Hid (Two alC 54 6 w wr v1 v2 (partL al0 p true l k) (partL al0 p false l k))) (fun _ _ x _ => n - (intOf x).toNat)
  case atStart => exact ⟨0, Nat.zero_le _, rfl, T0⟩
  case round =>
    obtain ⟨k, hk, rfl, hT⟩ := hrel
    clear T0
    generalize wr = g0 at *
    by_cases hlt : k < n
    · have hki : (k : Int) < (n : Int) := by omega
      obtain ⟨b, off, rfl, hbl, x0, x1, x2, x3, x4, x5⟩ := al_at (RW.out.below hT.out.b) hlt
      have hc1 : (partL al0 p true l k).length ≤ 1000000 := Nat.le_trans (hll.out true k) (by omega)
      have hc2 : (partL al0 p false l k).length ≤ 1000000 := Nat.le_trans (hll.out false k) (by omega)
      have hy' := Lib.hid (hyes.out k)
      have hn' := Lib.hid (hno.out k)
      have hF' := Lib.hid (fun W hW => hF.out W hW k hlt)
      obtain ⟨L1', hL1'⟩ : ∃ L, partL al0 p true l (k + 1) = L := ⟨_, rfl⟩
      obtain ⟨L2', hL2'⟩ : ∃ L, partL al0 p false l (k + 1) = L := ⟨_, rfl⟩
      rw [hL1', hL2'] at hy' hn'
      have hM1 := Lib.hid hL1'
      have hM2 := Lib.hid hL2'
      clear hL1' hL2'
      generalize partL al0 p true l k = L1 at *
      generalize partL al0 p false l k = L2 at *
      generalize l.getD k al0 = X at *
      obtain ⟨V, hV⟩ : ∃ V, V = g0.alloc (.cells #[.int .i64 0, .int .i64 0, .string ⟨#[]⟩, .string ⟨#[]⟩, .int .i64 0, .string ⟨#[]⟩] 54) := ⟨_, rfl⟩
      obtain ⟨gb, hgb⟩ : ∃ gb, gb = g0.heap.size := ⟨_, rfl⟩
      have HB : Holds V gb 54 #[.int .i64 0, .int .i64 0, .string ⟨#[]⟩, .string ⟨#[]⟩, .int .i64 0, .string ⟨#[]⟩] := by rw [hV, hgb]; exact Holds.new _ _ _
      have bV : Below g0.heap.size g0 V := by rw [hV]; exact box_below _ _ _
      clear hyes hno hll hF RW
      go_wp2_with
        (rw [← hV, ← hgb]
         refine wpList_store_row rfl 54 (.tmp 7) (.tmp 14) rfl gb #[.int .i64 X.kind, .int .i64 X.sev, .string X.fn, .string X.file, .int .i64 X.line, .string X.expr] rfl rfl 54 #[.int .i64 0, .int .i64 0, .string ⟨#[]⟩, .string ⟨#[]⟩, .int .i64 0, .string ⟨#[]⟩] HB (by rw [info_alS]; rfl) rfl (by simp [Value.oneCell']) ?_
         have bS : Hid (Below g0.heap.size g0 (V.setRow gb #[.int .i64 X.kind, .int .i64 X.sev, .string X.fn, .string X.file, .int .i64 X.line, .string X.expr])) := Lib.hid (mk_setRow bV (Nat.le_of_eq hgb.symm) _)
         have HS : Hid (Holds (V.setRow gb #[.int .i64 X.kind, .int .i64 X.sev, .string X.fn, .string X.file, .int .i64 X.line, .string X.expr]) gb 54 #[.int .i64 X.kind, .int .i64 X.sev, .string X.fn, .string X.file, .int .i64 X.line, .string X.expr]) := Lib.hid (setRow_heap V gb #[.int .i64 0, .int .i64 0, .string ⟨#[]⟩, .string ⟨#[]⟩, .int .i64 0, .string ⟨#[]⟩] #[.int .i64 X.kind, .int .i64 X.sev, .string X.fn, .string X.file, .int .i64 X.line, .string X.expr] 54 (0, 0) HB)
         generalize V.setRow gb #[.int .i64 X.kind, .int .i64 X.sev, .string X.fn, .string X.file, .int .i64 X.line, .string X.expr] = V8 at *
         clear hV bV HB hgb x0 x1 x2 x3 x4 x5
         have k0 := HS.out.cell 0
         have k1 := HS.out.cell 1
         have k2 := HS.out.cell 2
         have k3 := HS.out.cell 3
         have k4 := HS.out.cell 4
         have k5 := HS.out.cell 5
         simp at k0 k1 k2 k3 k4 k5)
      have hT8 := Lib.hid (hT.out.below bS.out)
      have q := Lib.hid (hF'.out V8 hT8.out.b)
      clear hF' hT bS
      dsimp only [alC, List.toArray] at q
      refine q.out.mono ?_
      rintro e w9 ⟨rfl, b9⟩
      have hT9 := Lib.hid (hT8.out.below b9)
      have HM := HS.out.below b9 HS.out.lt
      have m0 := HM.cell 0
      have m1 := HM.cell 1
      have m2 := HM.cell 2
      have m3 := HM.cell 3
      have m4 := HM.cell 4
      have m5 := HM.cell 5
      simp at m0 m1 m2 m3 m4 m5
      clear k0 k1 k2 k3 k4 k5
      clear HM hT8 q b9 HS
      cases hpk : p k
      · obtain ⟨e1, e2⟩ := hn'.out hpk
        clear hy' hn' hpk
        go_wp2_with
          (at_builtin
           go_loud (refine wpList_append_two1 w9 rfl (.tmp 23) (.tmp 25) rfl i0 zz Tryz.underlying23 hi hz h6 h72 hz6 (by decide) alC_len (by decide) (fun x u hu => alcells_one (l := [x]) (by simpa [alcells] using hu)) w _ _ L2 L1 hT9.out.symm X _ rfl rfl _ rfl rfl hc2 ?_)
           intro v2 g2 T2
           have T2' := Lib.hid T2.symm
           clear T2 hT9)
        go_roundw
        case rel => exact ⟨k + 1, by omega, by go_num, Lib.hid (by rw [hM1.out, hM2.out, e1, e2]; exact T2'.out)⟩
        case measure => simp [intOf]; omega
      · obtain ⟨e1, e2⟩ := hy'.out hpk
        clear hy' hn' hpk
        go_wp2_with
          (at_builtin
           go_loud (refine wpList_append_two1 w9 rfl (.tmp 19) (.tmp 21) rfl i0 zz Tryz.underlying23 hi hz h6 h72 hz6 (by decide) alC_len (by decide) (fun x u hu => alcells_one (l := [x]) (by simpa [alcells] using hu)) w _ _ L1 L2 hT9.out X _ rfl rfl _ rfl rfl hc1 ?_)
           intro v2 g2 T2
           have T2' := Lib.hid T2
           clear T2 hT9)
        go_roundw
        case rel => exact ⟨k + 1, by omega, by go_num, Lib.hid (by rw [hM1.out, hM2.out, e1, e2]; exact T2'.out)⟩
        case measure => simp [intOf]; omega
    · have hki : ¬ (k : Int) < (n : Int) := by omega
      have hke : k = n := by omega
      subst hke
      clear hll hyes hno hF
      go_wp2
      refine bodyPost_ret (results_tmp2 rfl _ _ _) rfl ?_
      exact ⟨_, _, rfl, hT.out⟩
end Go.Proofs.YtpchncpcckfghaaGreat
namespace Go.Proofs.YtpchncpcckfghaaGreat
open Go.RowKit
set_option linter.unusedVariables false
set_option linter.unusedSimpArgs false
set_option maxRecDepth 100000 in
set_option maxHeartbeats 8000000 in
theorem apartMk_any (f : Nat) (cb : Array Value) (p : Nat → Bool) (w : World) (a : Option Addr) (n c : Nat) (l : List MkD) (hn : n ≤ 100000) (h : RO mkC w a n c l)
    (ef : ∀ args w, (callFunc f args).run Tryz.prog w = .ok (.enter f args) w) (hf : ∀ W, Below w.heap.size w W → ∀ k, k < n → Calls Tryz.prog f (#[.int .i64 (k : Nat), .agg (mkC (l.getD k mk0)).toArray] ++ cb) W (Gives (.bool (p k)) W)) :
    Calls Tryz.prog 36 #[.slice a n c, .func (.func f) #[] cb] w (PartE mkC 40 2 mk0 p l n w) := by
  have hlen := Lib.hid h.len
  have RW := Lib.hid h
  have hF := Lib.hid hf
  have hll := Lib.hid (fun b k => apl_len mk0 p b l k)
  have hyes := Lib.hid (fun k h => apl_yes (d := mk0) (p := p) (l := l) (k := k) h)
  have hno := Lib.hid (fun k h => apl_no (d := mk0) (p := p) (l := l) (k := k) h)
  have T0 := Lib.hid (show Two mkC 40 2 w w (.slice none 0 0) (.slice none 0 0) (partL mk0 p true l 0) (partL mk0 p false l 0) from Two.nil _ _ _ _)
  obtain ⟨i0, zz, hi, hz, h6, h72, hz6⟩ := infoMkZ
  clear h hf
  go_enter Tryz.func36, Tryz.ntmps36
  go_wp2
  go_loopw [4, 5, 10] (fun v1 v2 x wr => ∃ k : Nat, k ≤ n ∧ x = .int .i64 k ∧ Hid (Two mkC 40 2 w wr v1 v2 (partL mk0 p true l k) (partL mk0 p false l k))) (fun _ _ x _ => n - (intOf x).toNat)
  case atStart => exact ⟨0, Nat.zero_le _, rfl, T0⟩
  case round =>
    obtain ⟨k, hk, rfl, hT⟩ := hrel
    clear T0
    generalize wr = g0 at *
    by_cases hlt : k < n
    · have hki : (k : Int) < (n : Int) := by omega
      obtain ⟨b, off, rfl, hbl, x0, x1⟩ := mk_at (RW.out.below hT.out.b) hlt
      have hc1 : (partL mk0 p true l k).length ≤ 1000000 := Nat.le_trans (hll.out true k) (by omega)
      have hc2 : (partL mk0 p false l k).length ≤ 1000000 := Nat.le_trans (hll.out false k) (by omega)
      have hy' := Lib.hid (hyes.out k)
      have hn' := Lib.hid (hno.out k)
      have hF' := Lib.hid (fun W hW => hF.out W hW k hlt)
      obtain ⟨L1', hL1'⟩ : ∃ L, partL mk0 p true l (k + 1) = L := ⟨_, rfl⟩
      obtain ⟨L2', hL2'⟩ : ∃ L, partL mk0 p false l (k + 1) = L := ⟨_, rfl⟩
      rw [hL1', hL2'] at hy' hn'
      have hM1 := Lib.hid hL1'
      have hM2 := Lib.hid hL2'
      clear hL1' hL2'
      generalize partL mk0 p true l k = L1 at *
      generalize partL mk0 p false l k = L2 at *
      generalize l.getD k mk0 = X at *
      obtain ⟨V, hV⟩ : ∃ V, V = g0.alloc (.cells #[.int .u64 0, .string ⟨#[]⟩] 40) := ⟨_, rfl⟩
      obtain ⟨gb, hgb⟩ : ∃ gb, gb = g0.heap.size := ⟨_, rfl⟩
      have HB : Holds V gb 40 #[.int .u64 0, .string ⟨#[]⟩] := by rw [hV, hgb]; exact Holds.new _ _ _
      have bV : Below g0.heap.size g0 V := by rw [hV]; exact box_below _ _ _
      clear hyes hno hll hF RW
      go_wp2_with
        (rw [← hV, ← hgb]
         refine wpList_store_row rfl 40 (.tmp 7) (.tmp 14) rfl gb #[.int .u64 X.f, .string X.note] rfl rfl 40 #[.int .u64 0, .string ⟨#[]⟩] HB (by rw [info_mk]; rfl) rfl (by simp [Value.oneCell']) ?_
         have bS : Hid (Below g0.heap.size g0 (V.setRow gb #[.int .u64 X.f, .string X.note])) := Lib.hid (mk_setRow bV (Nat.le_of_eq hgb.symm) _)
         have HS : Hid (Holds (V.setRow gb #[.int .u64 X.f, .string X.note]) gb 40 #[.int .u64 X.f, .string X.note]) := Lib.hid (setRow_heap V gb #[.int .u64 0, .string ⟨#[]⟩] #[.int .u64 X.f, .string X.note] 40 (0, 0) HB)
         generalize V.setRow gb #[.int .u64 X.f, .string X.note] = V8 at *
         clear hV bV HB hgb x0 x1
         have k0 := HS.out.cell 0
         have k1 := HS.out.cell 1
         simp at k0 k1)
      have hT8 := Lib.hid (hT.out.below bS.out)
      have q := Lib.hid (hF'.out V8 hT8.out.b)
      clear hF' hT bS
      dsimp only [mkC, List.toArray] at q
      refine q.out.mono ?_
      rintro e w9 ⟨rfl, b9⟩
      have hT9 := Lib.hid (hT8.out.below b9)
      have HM := HS.out.below b9 HS.out.lt
      have m0 := HM.cell 0
      have m1 := HM.cell 1
      simp at m0 m1
      clear k0 k1
      clear HM hT8 q b9 HS
      cases hpk : p k
      · obtain ⟨e1, e2⟩ := hn'.out hpk
        clear hy' hn' hpk
        go_wp2_with
          (at_builtin
           go_loud (refine wpList_append_two1 w9 rfl (.tmp 23) (.tmp 25) rfl i0 zz Tryz.underlying22 hi hz h6 h72 hz6 (by decide) mkC_len (by decide) (fun x u hu => mkcells_one (l := [x]) (by simpa [mkcells] using hu)) w _ _ L2 L1 hT9.out.symm X _ rfl rfl _ rfl rfl hc2 ?_)
           intro v2 g2 T2
           have T2' := Lib.hid T2.symm
           clear T2 hT9)
        go_roundw
        case rel => exact ⟨k + 1, by omega, by go_num, Lib.hid (by rw [hM1.out, hM2.out, e1, e2]; exact T2'.out)⟩
        case measure => simp [intOf]; omega
      · obtain ⟨e1, e2⟩ := hy'.out hpk
        clear hy' hn' hpk
        go_wp2_with
          (at_builtin
           go_loud (refine wpList_append_two1 w9 rfl (.tmp 19) (.tmp 21) rfl i0 zz Tryz.underlying22 hi hz h6 h72 hz6 (by decide) mkC_len (by decide) (fun x u hu => mkcells_one (l := [x]) (by simpa [mkcells] using hu)) w _ _ L1 L2 hT9.out X _ rfl rfl _ rfl rfl hc1 ?_)
           intro v2 g2 T2
           have T2' := Lib.hid T2
           clear T2 hT9)
        go_roundw
        case rel => exact ⟨k + 1, by omega, by go_num, Lib.hid (by rw [hM1.out, hM2.out, e1, e2]; exact T2'.out)⟩
        case measure => simp [intOf]; omega
    · have hki : ¬ (k : Int) < (n : Int) := by omega
      have hke : k = n := by omega
      subst hke
      clear hll hyes hno hF
      go_wp2
      refine bodyPost_ret (results_tmp2 rfl _ _ _) rfl ?_
      exact ⟨_, _, rfl, hT.out⟩
end Go.Proofs.YtpchncpcckfghaaGreat
