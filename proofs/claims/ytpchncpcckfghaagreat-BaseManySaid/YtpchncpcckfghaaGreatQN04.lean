/-
  Words and walks under the law's proof.
-/
import Derived.Test.YtpchncpcckfghaaGreatRows
import Derived.Laws.Bits64b
import Derived.Laws.BitsAllLaws
import Derived.WalkSpells
import Derived.Lib.BufferMore
import Derived.Sort.Grow
import Derived.IntWalk
import Derived.Deep.QuietTactic
import Derived.BigQuiet
import Derived.Laws.Cover1
import Derived.ArgAppend
import Derived.Lib.FrozenHead
import Derived.Maps.OwnSet
import Derived.Test.YtpchncpcckfghaaGreatQN01
import Derived.Test.YtpchncpcckfghaaGreatQN02
import Derived.Test.YtpchncpcckfghaaGreatQN03
namespace Go.Proofs.YtpchncpcckfghaaGreat
open Go.RowKit
set_option linter.unusedVariables false
set_option linter.unusedSimpArgs false
def Bld (B b : Nat) (l : List Int) (w : World) : Prop := Lib.IsBuilderF 143 5 B b (nums .u8 l) w
def BldW (v : Value) (B b : Nat) (l : List Int) (w : World) (e : Ending) (w' : World) : Prop := e = .returned v ∧ Bld B b l w' ∧ Below B w w' ∧ Lib.OthersKept 5 (some b) w w'
theorem infoBld : (Tryz.prog.info? 143).map (fun i => i.size) = some 2 := by kernel_rfl
theorem infoB8 : (Tryz.prog.info? 5).map (fun i => (i.zero, i.size, i.bytes)) = some (some (.int .u8 0), 1, 1) := by kernel_rfl
theorem bld_new (w : World) (B : Nat) (hB : B ≤ w.heap.size) : Bld B w.heap.size [] (w.alloc (.cells #[.pointer none, .slice none 0 0] 143)) :=
  .inl ⟨hB, .slice none 0 0, heap_alloc_new w _, ⟨rfl, .inl ⟨rfl, rfl⟩⟩, by simp [Value.ownBlock]⟩
theorem Bld.lt {B b : Nat} {l : List Int} {w : World} (h : Bld B b l w) : b < w.heap.size := by
  rcases h with h | h <;> exact h.lt
theorem bld_own_kept {w w' : World} {e : TypeId} {B : Nat} {v : Value} {n : Nat} {xs : List Value} (h : w.ownsRowF B e 1 v n xs) (hk : Below w.heap.size w w') : w'.ownsRowF B e 1 v n xs :=
  ⟨h.1, h.2.elim .inl fun ⟨g, cap, cur, fz, hv, hg, hh, r⟩ => .inr ⟨g, cap, cur, fz, hv, hg, (hk.block g (Array.getElem?_eq_some_iff.1 hh).1).trans hh, r⟩⟩
theorem Bld.below {B b : Nat} {l : List Int} {w w' : World} (h : Bld B b l w) (hk : Below w.heap.size w w') : Bld B b l w' := by
  have hlt := h.lt
  rcases h with ⟨hB, v, hb, hown, hne⟩ | ⟨hB, v, hb, hown, hne⟩
  · exact .inl ⟨hB, v, (hk.block b hlt).trans hb, bld_own_kept hown hk, hne⟩
  · exact .inr ⟨hB, v, (hk.block b hlt).trans hb, bld_own_kept hown hk, hne⟩
set_option maxHeartbeats 1000000 in
set_option maxRecDepth 100000 in
theorem check_used (b : Nat) (w : World) (h0 : w.cell? ⟨b, 0, none⟩ = some (.pointer (some ⟨b, 0, none⟩))) :
    Calls Tryz.prog 139 #[.pointer (some ⟨b, 0, none⟩)] w fun e w' => e = .returned (.tuple #[]) ∧ w' = w := by
  obtain ⟨j, hj, _⟩ := Option.map_eq_some_iff.1 infoBld
  go_enter Tryz.func139, Tryz.ntmps139
  go_wp2
  rw [Lib.run_neq_ptr_same w _ Tryz.underlying141 hj]
  go_wp2
  go_end0
  exact ⟨rfl, rfl⟩
set_option maxHeartbeats 1000000 in
set_option maxRecDepth 100000 in
theorem check_fresh (b : Nat) (w : World) (h0 : w.cell? ⟨b, 0, none⟩ = some (.pointer none)) (hsh : w.shape? b = some (143, 2)) (hfz : w.frozen? ⟨b, 0, none⟩ = false) :
    Calls Tryz.prog 139 #[.pointer (some ⟨b, 0, none⟩)] w fun e w' => e = .returned (.tuple #[]) ∧ w' = w.setCell ⟨b, 0, none⟩ (.pointer (some ⟨b, 0, none⟩)) := by
  obtain ⟨j, hj, hjs⟩ := Option.map_eq_some_iff.1 infoBld
  go_enter Tryz.func139, Tryz.ntmps139
  go_wp2
  rw [Lib.run_to_unsafe w ⟨b, 0, none⟩ Tryz.underlying141 Tryz.underlying166 hj (by rw [hjs]; decide) hsh (Nat.zero_lt_succ 1)]
  simp only [Result.andThen]
  rw [Oper.upon_value]
  go_wp2
  rw [run_callFunc_extern Tryz.func145 (by kernel_rfl) (by kernel_rfl) (by kernel_rfl) (e := Extern.AbiNoEscape.same) (by kernel_rfl)]
  rw [Lib.run_noEscape]
  simp only [Result.andThen]
  rw [Oper.upon_value]
  go_wp2
  rw [Lib.run_from_unsafe w ⟨b, 0, none⟩ Tryz.underlying166 Tryz.underlying141 hj hsh (by kernel_rfl)]
  simp only [Result.andThen]
  rw [Oper.upon_value]
  go_wp2
  go_end0
  exact ⟨rfl, rfl⟩
theorem check_any (B b : Nat) (l : List Int) (w : World) (h : Bld B b l w) :
    Calls Tryz.prog 139 #[.pointer (some ⟨b, 0, none⟩)] w fun e w' => e = .returned (.tuple #[]) ∧ Lib.BuilderAtF 143 5 B b (.pointer (some ⟨b, 0, none⟩)) (nums .u8 l) w' ∧ Below B w w' ∧ Lib.OthersKept 5 (some b) w w' := by
  rcases h with h | h
  · refine (check_fresh b w h.cell0 h.shape h.frozen0).mono ?_
    rintro e w' ⟨rfl, rfl⟩
    exact ⟨rfl, h.used _, (Below.refl B w).setCell (p := ⟨b, 0, none⟩) h.1 _, (Lib.OthersKept.refl _ _ w).setCell ⟨b, 0, none⟩ rfl _⟩
  · refine (check_used b w h.cell0).mono ?_
    rintro e w' ⟨rfl, rfl⟩
    exact ⟨rfl, h, Below.refl B _, Lib.OthersKept.refl _ _ _⟩
theorem hold_slice {w : World} {B : Nat} {v : Value} {n : Nat} {xs : List Value} (h : w.ownsRowF B 5 1 v n xs) : ∃ a m c, v = .slice a m c := by
  rcases h.2 with ⟨hv, _⟩ | ⟨g, cap, cur, fz, hv, _⟩
  · exact ⟨_, _, _, hv⟩
  · exact ⟨_, _, _, hv⟩
set_option maxHeartbeats 2000000 in
set_option maxRecDepth 100000 in
theorem wbyte_any (B b : Nat) (l : List Int) (c : Int) (w : World) (h : Bld B b l w) (hlen : l.length + 1 ≤ 140737488355328) (hBw : B ≤ w.heap.size) :
    Calls Tryz.prog 116 #[.pointer (some ⟨b, 0, none⟩), .int .u8 c] w (BldW .nilIface B b (l ++ [c]) w) := by
  obtain ⟨i0, hi, hz0, hz1, hz2⟩ := info_parts infoB8
  have hck := Lib.hid (check_any B b l w h)
  clear h
  go_enter Tryz.func116, Tryz.ntmps116
  go_wp2_with fail
  refine hck.out.mono ?_
  rintro e w1 ⟨rfl, h1, hb1, hk1⟩
  obtain ⟨hB, v, hbk, hown, hne⟩ := h1
  have c0 : w1.cell? ⟨b, 0, none⟩ = some (.pointer (some ⟨b, 0, none⟩)) := by rw [Lib.cell_of_heap hbk]; rfl
  have c1 : w1.cell? ⟨b, 1, none⟩ = some v := by rw [Lib.cell_of_heap hbk]; rfl
  have hnl : (nums .u8 l).length = l.length := by simp [nums]
  go_wp2_with (at_builtin; refine wpList_append_ownF _ rfl _ _ 82 rfl B 5 i0 (.int .u8 0) 1 1 Tryz.underlying82 hi hz0 hz1 hz2 rfl (by decide) _ _ _ rfl (hown.alloc _) ⟨w1.heap.size, 0, none⟩ 1 1 [.int .u8 c] rfl rfl ?c1 ?c2 ?c3 ?c4 ?c5 ?_)
  case c1 =>
    intro j u hj
    match j, hj with
    | 0, hj => simp at hj; subst hj; simp [Addr.add]
  case c2 => intro u hu; simp at hu; subst hu; rfl
  case c3 => unfold maxLen; omega
  case c4 => omega
  case c5 => have := hb1.size; simp; omega
  intro v' w2 hown' hgrow _
  have hlt : b < w1.heap.size := (Array.getElem?_eq_some_iff.1 hbk).1
  have hb2 : w2.heap[b]? = some (.cells #[.pointer (some ⟨b, 0, none⟩), v] 143 (0, 0)) := by
    rw [hgrow.block b (by simp; omega) (fun e => hne e.symm), Lib.alloc_old w1 _ b hlt]
    exact hbk
  have d0 : w2.cell? ⟨b, 0, none⟩ = some (.pointer (some ⟨b, 0, none⟩)) := by rw [Lib.cell_of_heap hb2]; rfl
  have d1 : w2.cell? ⟨b, 1, none⟩ = some v := by rw [Lib.cell_of_heap hb2]; rfl
  have f1 : w2.frozen? ⟨b, 1, none⟩ = false := Lib.frozen_of_heap hb2 1
  obtain ⟨ao, n', cap, rfl⟩ := hold_slice hown'
  go_wp2
  go_ret
  refine ⟨rfl, .inr ?_, ?_, ((hk1.alloc _).grown hgrow (Lib.ownsRowF_kind (hown.alloc _))).setCell ⟨b, 1, none⟩ rfl _⟩
  · rw [nums_snoc]
    exact Lib.BuilderAtF.put hB hb2 (by simpa [hnl] using hown') (by decide)
  · exact ((hb1.alloc (by have := hb1.size; omega) _).grown hgrow (by have := hb1.size; simp; omega) (fun k hk => (hown.lt k hk).1)).setCell (p := ⟨b, 1, none⟩) hB _
set_option maxHeartbeats 2000000 in
set_option maxRecDepth 100000 in
theorem wstr_any (B b : Nat) (l : List Int) (s : ByteArray) (w : World) (h : Bld B b l w) (hlen : l.length + s.size ≤ 140737488355328) (hBw : B ≤ w.heap.size) :
    Calls Tryz.prog 117 #[.pointer (some ⟨b, 0, none⟩), .string s] w (BldW (.tuple #[.int .i64 s.size, .nilIface]) B b (l ++ codes s) w) := by
  obtain ⟨i0, hi, hz0, hz1, hz2⟩ := info_parts infoB8
  have hck := Lib.hid (check_any B b l w h)
  clear h
  go_enter Tryz.func117, Tryz.ntmps117
  go_wp2_with fail
  refine hck.out.mono ?_
  rintro e w1 ⟨rfl, h1, hb1, hk1⟩
  obtain ⟨hB, v, hbk, hown, hne⟩ := h1
  have c0 : w1.cell? ⟨b, 0, none⟩ = some (.pointer (some ⟨b, 0, none⟩)) := by rw [Lib.cell_of_heap hbk]; rfl
  have c1 : w1.cell? ⟨b, 1, none⟩ = some v := by rw [Lib.cell_of_heap hbk]; rfl
  have hnl : (nums .u8 l).length = l.length := by simp [nums]
  go_wp2_with (at_builtin; refine Lib.wpList_append_own_stringF _ rfl _ _ 82 9 rfl B 5 i0 Tryz.underlying82 Tryz.underlying9 hi hz0 hz1 hz2 _ _ _ rfl hown s rfl ?c3 ?c4 ?c5 ?_)
  case c3 => unfold maxLen; omega
  case c4 => omega
  case c5 => have := hb1.size; omega
  intro v' w2 hown' hgrow _
  have hlt : b < w1.heap.size := (Array.getElem?_eq_some_iff.1 hbk).1
  have hb2 : w2.heap[b]? = some (.cells #[.pointer (some ⟨b, 0, none⟩), v] 143 (0, 0)) := by
    rw [hgrow.block b hlt (fun e => hne e.symm)]
    exact hbk
  have d0 : w2.cell? ⟨b, 0, none⟩ = some (.pointer (some ⟨b, 0, none⟩)) := by rw [Lib.cell_of_heap hb2]; rfl
  have d1 : w2.cell? ⟨b, 1, none⟩ = some v := by rw [Lib.cell_of_heap hb2]; rfl
  have f1 : w2.frozen? ⟨b, 1, none⟩ = false := Lib.frozen_of_heap hb2 1
  obtain ⟨ao, n', cap, rfl⟩ := hold_slice hown'
  go_wp2
  go_ret2
  refine ⟨rfl, .inr ?_, ?_, (hk1.grown hgrow (Lib.ownsRowF_kind hown)).setCell ⟨b, 1, none⟩ rfl _⟩
  · have e1 : nums .u8 (l ++ codes s) = nums .u8 l ++ Lib.strCells s := by simp [nums, codes, Lib.strCells]
    rw [e1]
    exact Lib.BuilderAtF.put hB hb2 (by simpa [Lib.strCells_length, hnl] using hown') (by decide)
  · exact (hb1.grown hgrow (by have := hb1.size; omega) (fun k hk => (hown.lt k hk).1)).setCell (p := ⟨b, 1, none⟩) hB _
theorem bytes_nums {l : List Int} (h : Bs l) : nums .u8 l = Lib.byteCells (strOfNums l).data.toList := by
  rw [strOfNums_data]
  simp only [nums, Lib.byteCells, List.map_map]
  apply List.map_congr_left
  intro x hx
  have := h x hx
  simp only [Function.comp, UInt8.toNat_ofNat']
  congr 1
  omega
theorem bstr_any (B b : Nat) (l : List Int) (w : World) (h : Bld B b l w) (hl : Bs l) (hBw : B ≤ w.heap.size) :
    Calls Tryz.prog 118 #[.pointer (some ⟨b, 0, none⟩)] w (BldW (.string (strOfNums l)) B b l w) := by
  unfold Bld at h
  rw [bytes_nums hl] at h
  refine (Tryz.Builder_String_any_k B b _ w h hBw).mono ?_
  rintro e w' ⟨rfl, h1, h2, h3⟩
  refine ⟨rfl, ?_, h2, h3⟩
  unfold Bld
  rw [bytes_nums hl]
  exact h1
end Go.Proofs.YtpchncpcckfghaaGreat
namespace Go.Proofs.YtpchncpcckfghaaGreat
open Go.RowKit
set_option linter.unusedVariables false
set_option linter.unusedSimpArgs false
theorem row_kept {w w' : World} {base b : Nat} {v : Value} {n : Nat} {xs : List Value} (h : w.ownsRow base 9 1 v n xs) (hb : v.ownBlock ≠ some b) (hk : Lib.OthersKept 5 (some b) w w') : w'.ownsRow base 9 1 v n xs := by
  refine ⟨h.1, ?_⟩
  rcases h.2 with h | ⟨g, cap, cur, hv, hg, hh, r⟩
  · exact .inl h
  · exact .inr ⟨g, cap, cur, hv, hg, hk g _ hh (by rw [hv] at hb; exact hb) (by intro c fz e; simp at e), r⟩
theorem head_at {p : List Int} (h : p ≠ []) : p.getD 0 0 = p.headD 0 := by cases p <;> simp at h ⊢
theorem norm_step {ps : List (List Int)} {k : Nat} (hk : k < ps.length) (last : Bool) : normL last (ps.drop k) = (if last && hw (ps.getD k []) then [32] else []) ++ ((ps.getD k []) ++ normL (hw (ps.getD k [])) (ps.drop (k + 1))) := by
  rw [List.drop_eq_getElem_cons hk]
  simp [normL, List.getD, hk]
set_option maxHeartbeats 2000000 in
set_option maxRecDepth 100000 in
theorem norm_any (s : ByteArray) (hs : s.size ≤ 100000) (w : World) : Calls Tryz.prog 100 #[.string s] w (Gives (.string (strOfNums (normS (codes s)))) w) := by
  have hlen := normS_len (codes s)
  rw [codes_length] at hlen
  have hpl : ∀ W, Calls Tryz.prog 114 #[.string s] W (GivesT (partsL (codes s)) W) := fun W => parts_any s hs W
  have hgood := parts_good _ (Nat.le_refl (codes s).length)
  have hbsAll := parts_bs _ (Nat.le_refl (codes s).length) (codes_bs s)
  have htot : Hid (normL false (partsL (codes s)) = normS (codes s)) := Lib.hid rfl
  have hT : Hid ((normS (codes s)).length ≤ 100000) := Lib.hid (by omega)
  have hTb : Hid (Bs (normS (codes s))) := Lib.hid (norm_bs hbsAll false)
  have hgood' := Lib.hid hgood
  have hbs' := Lib.hid hbsAll
  have hpl' := Lib.hid hpl
  have hnum : Hid ((partsL (codes s)).length ≤ 100000) := Lib.hid (by
    have h : ∀ (ps : List (List Int)) (last : Bool), (∀ p ∈ ps, Good p) → ps.length ≤ (normL last ps).length := by
      intro ps
      induction ps with
      | nil => intro _ _; simp
      | cons p r ih =>
        intro last hg
        have h1 := ih (hw p) (fun x hx => hg x (by simp [hx]))
        have h2 : 0 < p.length := List.length_pos_iff.2 (hg p (by simp)).ne
        simp only [normL, List.length_append, List.length_cons]; omega
    have := h _ false hgood
    unfold normS at hlen; omega)
  clear hlen hpl hgood hbsAll hs
  generalize partsL (codes s) = ps at *
  generalize normS (codes s) = T at *
  go_enter Tryz.func100, Tryz.ntmps100
  go_wp2_with fail
  refine (hpl'.out _).mono ?_
  rintro e W1 ⟨v, rfl, hrow, hB1⟩
  obtain ⟨a, c, rfl, -, -⟩ := sees_ownT hrow.1
  have hne : Hid ((Value.slice a (ps.map strOfNums).length c).ownBlock ≠ some w.heap.size) := Lib.hid (by
    intro e
    have := hrow.2 _ e
    simp at this; omega)
  have hown0 := hrow.1
  have hbld0 : Hid (Bld w.heap.size w.heap.size [] W1) := Lib.hid ((bld_new w w.heap.size (Nat.le_refl _)).below hB1)
  have hB0 : Hid (Below w.heap.size w W1) := Lib.hid (((Below.refl _ _).alloc (Nat.le_refl _) _).trans (hB1.mono (by simp)))
  have hown0' := Lib.hid hown0
  clear hrow hown0 hB1
  go_wp2
  go_loopw [4, 11] (fun word i wr => ∃ (k : Nat) (acc : List Int) (last : Bool), k ≤ ps.length ∧ i = .int .i64 k ∧ word = .bool last ∧ Hid (acc ++ normL last (ps.drop k) = T) ∧ Hid (Bld w.heap.size w.heap.size acc wr) ∧ Hid (wr.ownsRow 0 9 1 (.slice a (ps.map strOfNums).length c) (ps.map strOfNums).length (txts (ps.map strOfNums))) ∧ Hid (Below w.heap.size w wr)) (fun _ i _ => ps.length - (intOf i).toNat)
  case atStart => exact ⟨0, [], false, by omega, rfl, rfl, Lib.hid (by simpa using htot.out), hbld0, hown0', hB0⟩
  case round =>
    obtain ⟨k, acc, last, hk, rfl, rfl, htt, hbld, hown, hB⟩ := hrel
    have hkb := hnum.out
    by_cases hlt : k < ps.length
    · have hlt' : 0 < (ps.map strOfNums).length := by simp; omega
      obtain ⟨a', c', hv, -, hs⟩ := sees_ownT hown.out
      have ea : a = a' := by injection hv
      subst ea
      clear hv
      rcases hs with h | ⟨b1, o1, rfl, -, g1⟩
      · rw [h] at hlt'; simp at hlt'
      have e1 := g1 k (by simpa using hlt)
      rw [show (ps.map strOfNums).getD k ⟨#[]⟩ = strOfNums (ps.getD k []) by simp [List.getD, hlt]] at e1
      clear g1
      have hgk := hgood'.out (ps.getD k []) (by simp [List.getD, hlt])
      have hbk := hbs'.out (ps.getD k []) (by simp [List.getD, hlt])
      have hst := Lib.hid (norm_step hlt last)
      have hpl : 0 < (ps.getD k []).length := List.length_pos_iff.2 hgk.ne
      have hz : ∀ W, (Instr.index 9 (.string (strOfNums (ps.getD k []))) (.int .i64 0)).run Tryz.prog W = .ok (.int .u8 ((ps.getD k []).headD 0)) W := fun W => by
        have := ix (strOfNums (ps.getD k [])) 0 (by rw [← codes_length, codes_str hbk]; exact hpl) W
        rw [codes_str hbk, head_at hgk.ne] at this
        exact this
      have hc0 := hbk.at hpl
      rw [head_at hgk.ne] at hc0
      have hcall := Lib.hid (fun W => wordByte_any ((ps.getD k []).headD 0) hc0.1 hc0.2 W)
      rw [show wdB ((ps.getD k []).headD 0) = hw (ps.getD k []) from rfl] at hcall
      have hsz : Hid ((strOfNums (ps.getD k [])).size = (ps.getD k []).length) := Lib.hid (by rw [← codes_length, codes_str hbk])
      have hcd : Hid (codes (strOfNums (ps.getD k [])) = ps.getD k []) := Lib.hid (codes_str hbk)
      clear hgk hbk hpl hc0
      generalize (ps.getD k []).headD 0 = c0 at *
      generalize ps.getD k [] = p at *
      generalize hw p = isw at *
      have hL : Hid ((acc ++ normL last (ps.drop k)).length ≤ 100000) := Lib.hid (by rw [htt.out]; exact hT.out)
      go_wp2_with fail
      refine (hcall.out _).mono ?_
      rintro e w' ⟨rfl, rfl⟩
      by_cases hsep : (last && isw) = true
      · obtain ⟨rfl, rfl⟩ : last = true ∧ isw = true := by cases last <;> cases isw <;> simp_all
        have hwb := Lib.hid (wbyte_any w.heap.size w.heap.size acc 32 wr hbld.out (by have := hL.out; simp at this; omega) hB.out.size)
        clear hsep
        go_wp2_with fail
        refine hwb.out.mono ?_
        rintro e W2 ⟨rfl, hbld2, hB2, hk2⟩
        have hws := Lib.hid (wstr_any w.heap.size w.heap.size (acc ++ [32]) (strOfNums p) W2 hbld2 (by have := hL.out; rw [hst.out] at this; rw [hsz.out]; simp at this ⊢; omega) (by have := hB.out.size; have := hB2.size; omega))
        clear hbld2 hwb
        go_wp2_with fail
        refine hws.out.mono ?_
        rintro e W3 ⟨rfl, hbld3, hB3, hk3⟩
        rw [hcd.out] at hbld3
        have hbld3' := Lib.hid hbld3
        have hown3 := Lib.hid (row_kept (row_kept hown.out hne.out hk2) hne.out hk3)
        have hB3' := Lib.hid ((hB.out.trans hB2).trans hB3)
        have htt3 : Hid ((acc ++ [32] ++ p) ++ normL true (ps.drop (k + 1)) = T) := Lib.hid (by rw [← htt.out, hst.out]; simp)
        clear hbld3 hws hB2 hk2 hB3 hk3 hbld hown hB htt hst hL
        go_wp2
        go_roundw
        case rel => exact ⟨k + 1, _, true, by omega, by go_num, rfl, htt3, hbld3', hown3, hB3'⟩
        case measure => simp [intOf]; omega
      · have hws := Lib.hid (wstr_any w.heap.size w.heap.size acc (strOfNums p) wr hbld.out (by have := hL.out; rw [hst.out] at this; rw [hsz.out]; simp at this ⊢; omega) hB.out.size)
        have htt3 : Hid ((acc ++ p) ++ normL isw (ps.drop (k + 1)) = T) := Lib.hid (by rw [← htt.out, hst.out, if_neg hsep]; simp)
        have hsp : (last && isw) = false := by simpa using hsep
        clear hsep
        cases last
        · go_wp2_with fail
          refine hws.out.mono ?_
          rintro e W3 ⟨rfl, hbld3, hB3, hk3⟩
          rw [hcd.out] at hbld3
          have hbld3' := Lib.hid hbld3
          have hown3 := Lib.hid (row_kept hown.out hne.out hk3)
          have hB3' := Lib.hid (hB.out.trans hB3)
          clear hbld3 hws hB3 hk3 hbld hown hB htt hst hL
          go_wp2
          go_roundw
          case rel => exact ⟨k + 1, _, isw, by omega, by go_num, rfl, htt3, hbld3', hown3, hB3'⟩
          case measure => simp [intOf]; omega
        · obtain rfl : isw = false := by simpa using hsp
          go_wp2_with fail
          refine hws.out.mono ?_
          rintro e W3 ⟨rfl, hbld3, hB3, hk3⟩
          rw [hcd.out] at hbld3
          have hbld3' := Lib.hid hbld3
          have hown3 := Lib.hid (row_kept hown.out hne.out hk3)
          have hB3' := Lib.hid (hB.out.trans hB3)
          clear hbld3 hws hB3 hk3 hbld hown hB htt hst hL
          go_wp2
          go_roundw
          case rel => exact ⟨k + 1, _, false, by omega, by go_num, rfl, htt3, hbld3', hown3, hB3'⟩
          case measure => simp [intOf]; omega
    · have hfin : Hid (acc = T) := Lib.hid (by
        have := htt.out
        rw [List.drop_of_length_le (by omega)] at this
        simpa [normL] using this)
      have hstr := Lib.hid (bstr_any w.heap.size w.heap.size acc wr hbld.out (by rw [hfin.out]; exact hTb.out) hB.out.size)
      clear hbld
      go_wp2_with fail
      refine hstr.out.mono ?_
      rintro e W3 ⟨rfl, -, hB3, -⟩
      have hres : Gives (.string (strOfNums T)) w (.returned (.string (strOfNums acc))) W3 := ⟨by rw [hfin.out], hB.out.trans hB3⟩
      clear hstr hB3
      go_wp2
      go_ret
      exact hres
end Go.Proofs.YtpchncpcckfghaaGreat
namespace Go.Proofs.YtpchncpcckfghaaGreat
open Go.RowKit
set_option linter.unusedVariables false
set_option linter.unusedSimpArgs false
theorem GivesT.open {ls : List (List Int)} {w w' : World} {e : Ending} (h : GivesT ls w e w') : ∃ a c, e = .returned (.slice a (ls.map strOfNums).length c) ∧ (ls.map strOfNums).length ≤ c ∧ SeesT w'.heap.size w' a (ls.map strOfNums) ∧ Below w.heap.size w w' := by
  obtain ⟨v, rfl, hr, hb⟩ := h
  obtain ⟨a, c, rfl, -, hs⟩ := sees_ownT hr.1
  refine ⟨a, c, rfl, ?_, hs, hb⟩
  rcases hr.1.2 with ⟨h1, h2⟩ | ⟨g, cap, cur, h1, _, _, h2, _⟩
  · injection h1 with _ h3 h4; omega
  · injection h1 with _ h3 h4; omega
end Go.Proofs.YtpchncpcckfghaaGreat
namespace Go.Proofs.YtpchncpcckfghaaGreat
set_option linter.unusedVariables false
def leb (n : Nat) : List Int := if n < 128 then [(n : Int)] else ((n % 128 + 128 : Nat) : Int) :: leb (n / 128)
termination_by n
decreasing_by omega
theorem leb_small {n : Nat} (h : n < 128) : leb n = [(n : Int)] := by rw [leb]; simp [h]
theorem leb_big {n : Nat} (h : 128 ≤ n) : leb n = ((n % 128 + 128 : Nat) : Int) :: leb (n / 128) := by rw [leb]; simp [show ¬ n < 128 by omega]
def U64 (n : Int) : Prop := 0 ≤ n ∧ n ≤ 18446744073709551615
theorem leb_len (k : Nat) : ∀ n, n < 128 ^ (k + 1) → (leb n).length ≤ k + 1 := by
  induction k with
  | zero => intro n h; rw [leb_small (by simpa using h)]; simp
  | succ k ih =>
    intro n h
    by_cases hn : n < 128
    · rw [leb_small hn]; simp
    · rw [leb_big (by omega)]
      have := ih (n / 128) (by rw [Nat.div_lt_iff_lt_mul (by omega)]; rw [Nat.pow_succ] at h; exact h)
      simp; omega
theorem leb_len64 {n : Nat} (h : n ≤ 18446744073709551615) : (leb n).length ≤ 10 := leb_len 9 n (by omega)
theorem leb_int {m : Int} (h : 128 ≤ m) : leb m.toNat = (m % 128 + 128) :: leb (m / 128).toNat := by
  rw [leb_big (by omega)]
  rw [show m.toNat / 128 = (m / 128).toNat by omega, show ((m.toNat % 128 + 128 : Nat) : Int) = m % 128 + 128 by omega]
theorem leb_int_len {m : Int} (h : 128 ≤ m) : (leb m.toNat).length = (leb (m / 128).toNat).length + 1 := by rw [leb_int h]; simp
theorem leb_int_small {m : Int} (h0 : 0 ≤ m) (h : m < 128) : leb m.toNat = [m] := by rw [leb_small (by omega)]; simp; omega
theorem leb_pos (n : Nat) : 1 ≤ (leb n).length := by
  rw [leb]; split <;> simp
theorem U64.le10 {n : Int} (h : U64 n) : (leb n.toNat).length ≤ 10 := leb_len64 (by unfold U64 at h; omega)
theorem leb_bytes (n : Nat) : Bs (leb n) := by
  induction n using Nat.strongRecOn with
  | _ n ih =>
    by_cases h : n < 128
    · rw [leb_small h]; intro x hx; simp at hx; omega
    · rw [leb_big (by omega)]
      intro x hx
      rcases List.mem_cons.1 hx with rfl | hx
      · omega
      · exact ih (n / 128) (by omega) x hx
end Go.Proofs.YtpchncpcckfghaaGreat
namespace Go.Proofs.YtpchncpcckfghaaGreat
open Go.RowKit
set_option linter.unusedVariables false
set_option maxHeartbeats 400000 in
theorem size_any (n : Int) (w : World) (h0 : 0 ≤ n) (h1 : U64 n) :
    Calls Tryz.prog 96 #[.int .u64 n] w fun e w' => e = .returned (.int .i64 (leb n.toNat).length) ∧ w = w' := by
  have hten := h1.le10
  go_enter Tryz.func96, Tryz.ntmps96
  go_wp2
  go_loop [0, 3] (fun x s => ∃ (m : Int) (k : Nat), 0 ≤ m ∧ m ≤ n ∧ k ≤ 10 ∧ (leb n.toNat).length + 1 = k + (leb m.toNat).length ∧ x = .int .u64 m ∧ s = .int .i64 k) (fun x _ => (intOf x).toNat)
  case atStart => exact ⟨n, 1, h0, by omega, by omega, by omega, rfl, rfl⟩
  case round =>
    obtain ⟨m, k, hm0, hmn, hk, hl, rfl, rfl⟩ := hrel
    have hp := leb_pos m.toNat
    by_cases hm : m < 128
    · have H : k = (leb n.toNat).length := by rw [leb_int_small hm0 hm] at hl; simp at hl; omega
      have H' := Lib.hid H
      clear H
      go_wp2
      go_ret
      exact ⟨by rw [← H'.out]; rfl, rfl⟩
    · have hs := leb_int_len (m := m) (by omega)
      have hp2 := leb_pos (m / 128).toNat
      have hk' : k + 1 ≤ 10 := by omega
      have hl' : (leb n.toNat).length + 1 = k + 1 + (leb (m / 128).toNat).length := by omega
      have hl2 := Lib.hid hl'
      clear hl hs hp hp2 hl'
      go_wp2
      go_round
      case rel => exact ⟨m / 128, k + 1, by omega, by omega, hk', hl2.out, rfl, by go_num⟩
      case measure => simp [intOf]; omega
end Go.Proofs.YtpchncpcckfghaaGreat
namespace Go.Proofs.YtpchncpcckfghaaGreat
open Go.RowKit
set_option linter.unusedVariables false
theorem orB (m : Int) (h : 0 ≤ m) : bits .or .u8 (m % 256) 128 = m % 128 + 128 := by
  have : ∀ x : Fin 256, bits .or .u8 (x.val : Int) 128 = (x.val : Int) % 128 + 128 := by decide +kernel
  have h2 := this ⟨(m % 256).toNat, by omega⟩
  simp only [] at h2
  rw [show (((m % 256).toNat : Nat) : Int) = m % 256 by omega] at h2
  rw [h2]; omega
theorem infoU8 : (Tryz.prog.info? 5).map (fun i => (i.zero, i.size, i.bytes)) = some (some (.int .u8 0), 1, 1) := by kernel_rfl
set_option maxRecDepth 100000 in
set_option maxHeartbeats 1000000 in
theorem put_any (n : Int) (w : World) (h0 : 0 ≤ n) (h1 : U64 n) :
    Calls Tryz.prog 70 #[.int .u64 n] w (Made 5 .u8 w (leb n.toNat)) := by
  obtain ⟨i0, hi, hz0, hz1, hz2⟩ := info_parts infoU8
  have hten := h1.le10
  go_enter Tryz.func70, Tryz.ntmps70
  go_wp2_with (first
    | (go_at_call 96; refine (size_any _ _ h0 h1).mono ?_; rintro e w' ⟨rfl, rfl⟩)
    | (at_make; refine wpList_make_own _ rfl _ _ 82 rfl w.heap.size 5 i0 (.int .u8 0) 1 Tryz.underlying82 hi hz0 hz1 .i64 .i64 _ (leb n.toNat).length rfl rfl rfl (by rw [hz2]; omega) (by unfold maxLen; omega) (Nat.le_refl _) ?_))
  intro w1 hown hgrow
  have hb : Below w.heap.size w w1 := (Below.refl _ _).grown hgrow (Nat.le_refl _) (by simp)
  clear hgrow
  go_wp2
  go_loopw [0, 3] (fun x v wr => ∃ (m : Int) (pre : List Int), 0 ≤ m ∧ m ≤ n ∧ Hid (leb n.toNat = pre ++ leb m.toNat) ∧ x = .int .u64 m ∧ wr.ownsRow w.heap.size 5 1 v pre.length (nums .u8 pre) ∧ Below w.heap.size w wr) (fun x _ _ => (intOf x).toNat)
  case atStart => exact ⟨n, [], h0, by omega, Lib.hid rfl, rfl, hown, hb⟩
  case round =>
    obtain ⟨m, pre, hm0, hmn, hl, rfl, hown, hb⟩ := hrel
    have hpl : pre.length ≤ 10 := by have := hl.out; rw [this] at hten; simp at hten; omega
    by_cases hm : m < 128
    · go_wp2_with (first
        | (at_builtin; refine wpList_append1 _ rfl _ _ 82 rfl w 5 i0 (.int .u8 0) 1 Tryz.underlying82 hi hz0 hz1 hz2 rfl .u8 m _ _ hown hb rfl rfl (by omega) (by omega) ?_; intro v' w' hown' hb'))
      go_ret
      have e : leb n.toNat = pre ++ [m] := by rw [hl.out, leb_int_small hm0 hm]
      exact ⟨_, rfl, by rw [e]; exact hown', hb'⟩
    · have e1 := orB m hm0
      go_wp2_with (first
        | (at_builtin; refine wpList_append1 _ rfl _ _ 82 rfl w 5 i0 (.int .u8 0) 1 Tryz.underlying82 hi hz0 hz1 hz2 rfl .u8 (m % 128 + 128) _ _ hown hb rfl rfl (by omega) (by omega) ?_; intro v' w' hown' hb'))
      go_roundw
      case rel => exact ⟨m / 128, pre ++ [m % 128 + 128], by omega, by omega, Lib.hid (by rw [hl.out, leb_int (by omega)]; simp), rfl, hown', hb'⟩
      case measure => simp [intOf]; omega
end Go.Proofs.YtpchncpcckfghaaGreat
namespace Go.Proofs.YtpchncpcckfghaaGreat
set_option linter.unusedVariables false
theorem u64_wrap (n : Int) : IntKind.u64.wrap n = n % 18446744073709551616 := IntKind.wrap_u64 n
end Go.Proofs.YtpchncpcckfghaaGreat
namespace Go.Proofs.YtpchncpcckfghaaGreat
open Go.RowKit
set_option linter.unusedVariables false
theorem Bs.drop {l : List Int} (h : Bs l) (n : Nat) : Bs (l.drop n) := fun x hx => h x (List.mem_of_mem_drop hx)
end Go.Proofs.YtpchncpcckfghaaGreat
namespace Go.Proofs.YtpchncpcckfghaaGreat
open Go.RowKit
set_option linter.unusedVariables false
theorem clone_any (A : Option Addr) (l : List Int) (n c : Nat) (hn : n = l.length) (B : Nat) (w : World) (hl : l.length ≤ 140737488355328) (hs : Sees .u8 B w A l) :
    Calls Tryz.prog 119 #[.slice A n c] w (Made 5 .u8 w l) := by
  obtain ⟨i0, hi, hz0, hz1, hz2⟩ := info_parts infoU8
  subst hn
  cases A with
  | none =>
    have hl0 : l = [] := by
      rcases hs with h | ⟨b, off, h, _⟩
      · exact h
      · cases h
    subst hl0
    have hq := fun W => Lib.run_eql_slice_nil_nil (P := Tryz.prog) W (t := 82) (e := 5) 0 c Tryz.underlying82
    go_enter Tryz.func119, Tryz.ntmps119
    go_wp2
    go_ret
    exact ⟨_, rfl, ⟨rfl, .inl ⟨rfl, rfl⟩⟩, Below.refl _ _⟩
  | some ad =>
    have hq := fun W => Lib.run_eql_slice_some_nil (P := Tryz.prog) W (t := 82) (e := 5) ad l.length c Tryz.underlying82
    have hB : Below w.heap.size w (w.alloc (.cells #[] 5)) := (Below.refl _ _).alloc (Nat.le_refl _) _
    have hs' : Sees .u8 B (w.alloc (.cells #[] 5)) (some ad) l := by
      rcases hs with h | ⟨b, off, h, h2, h3⟩
      · exact .inl h
      · by_cases h0 : l = []
        · exact .inl h0
        · have hlt := World.block_lt_of_cell? w _ (h3 0 (List.length_pos_iff.2 h0))
          exact .inr ⟨b, off, h, h2, fun i hi => (hB.cell (p := ⟨b, off + i, none⟩) hlt).trans (h3 i hi)⟩
    have hl' := Lib.hid hl
    go_enter Tryz.func119, Tryz.ntmps119
    go_wp2_with (at_builtin; refine wpList_append_foot _ rfl (.tmp 5) (.tmp 6) 82 rfl 5 i0 (.int .u8 0) 1 Tryz.underlying82 hi hz0 hz1 hz2 rfl .u8 _ [] (World.ownsRow_made w #[] 0 (Nat.zero_le _) (by decide) (by simp)) B (some ad) l hs' l.length c rfl rfl rfl (by have := hl'.out; simp [maxLen]; omega) (by have := hl'.out; simp; omega) ?_; intro v' w' hown hgrow hblk; simp only [List.nil_append] at hown)
    go_ret
    have hown' : w'.ownsRow w.heap.size 5 1 v' l.length (nums .u8 l) := by
      refine ⟨hown.1, ?_⟩
      rcases hown.2 with h | ⟨g, cap, cur, hv, _, r⟩
      · exact .inl h
      · refine .inr ⟨g, cap, cur, hv, ?_, r⟩
        subst hv
        rcases hblk with h | h <;> simp [Value.ownBlock] at h <;> omega
    exact ⟨v', rfl, hown', hB.grown hgrow hB.size (by intro k hk; simp [Value.ownBlock] at hk; omega)⟩
def Pn (w : World) (g : Nat) (F : List Nat) (l : List Int) : Prop :=
  ∃ v, Holds w g 139 #[v] ∧ w.ownsRow 0 5 1 v l.length (nums .u8 l) ∧ g ∈ F ∧ (∀ b, v.ownBlock = some b → b ∈ F ∧ b ≠ g) ∧ ∀ x ∈ F, x < w.heap.size
def Turns (F F' : List Nat) (w w' : World) : Prop := BelowE F w.heap.size w w' ∧ ∀ x ∈ F', x ∈ F ∨ w.heap.size ≤ x
def Writes (g : Nat) (F : List Nat) (l : List Int) (w : World) (e : Ending) (w' : World) : Prop := e = .returned (.tuple #[]) ∧ ∃ F', Pn w' g F' l ∧ Turns F F' w w'
theorem Turns.trans {F F' F'' : List Nat} {w w' w'' : World} (h : Turns F F' w w') (k : Turns F' F'' w' w'') : Turns F F'' w w'' := by
  refine ⟨h.1.trans ((k.1.mono h.1.size).less ?_), ?_⟩
  · intro x hx hl
    rcases h.2 x hx with h1 | h1
    · exact h1
    · omega
  · intro x hx
    rcases k.2 x hx with h1 | h1
    · exact h.2 x h1
    · right; have := h.1.size; omega
theorem BelowE.toBelow {X : List Nat} {B : Nat} {w w' : World} (h : BelowE X B w w') (hx : ∀ x ∈ X, B ≤ x) : Below B w w' :=
  (h.less (Y := []) (fun x hm hl => absurd (hx x hm) (by omega))).none
theorem Pn.below {w w' : World} {g : Nat} {F : List Nat} {l : List Int} (h : Pn w g F l) (hb : Below w.heap.size w w') : Pn w' g F l := by
  obtain ⟨v, h1, h2, h3, h4, h5⟩ := h
  refine ⟨v, h1.below hb h1.lt, ?_, h3, h4, fun x hx => Nat.lt_of_lt_of_le (h5 x hx) hb.size⟩
  refine ⟨h2.1, ?_⟩
  rcases h2.2 with h | ⟨g', cap, cur, hv, hg, hh, r⟩
  · exact .inl h
  · exact .inr ⟨g', cap, cur, hv, hg, (hb.block g' (Array.getElem?_eq_some_iff.1 hh).1).trans hh, r⟩
theorem Pn.belowE {w w' : World} {X : List Nat} {g : Nat} {F : List Nat} {l : List Int} (h : Pn w g F l) (hb : BelowE X w.heap.size w w') (hx : ∀ x ∈ F, x ∉ X) : Pn w' g F l := by
  obtain ⟨v, h1, h2, h3, h4, h5⟩ := h
  refine ⟨v, h1.belowE hb h1.lt (hx g h3), ?_, h3, h4, fun x hx => Nat.lt_of_lt_of_le (h5 x hx) hb.size⟩
  refine ⟨h2.1, ?_⟩
  rcases h2.2 with h | ⟨g', cap, cur, hv, hg, hh, r⟩
  · exact .inl h
  · exact .inr ⟨g', cap, cur, hv, hg, (hb.block g' (Array.getElem?_eq_some_iff.1 hh).1 (hx g' (h4 g' (by rw [hv]; rfl)).1)).trans hh, r⟩
theorem pput_any (g : Nat) (F : List Nat) (l : List Int) (A : Option Addr) (r : List Int) (n c : Nat) (hn : n = r.length) (B : Nat) (w : World) (h : Pn w g F l) (hs : Sees .u8 B w A r) (hl : l.length + r.length ≤ 140737488355328) :
    Calls Tryz.prog 113 #[.pointer (some ⟨g, 0, none⟩), .slice A n c] w (Writes g F (l ++ r) w) := by
  obtain ⟨i0, hi, hz0, hz1, hz2⟩ := info_parts infoU8
  subst hn
  obtain ⟨v, h1, h2, h3, h4, h5⟩ := h
  have c0 := h1.cell 0
  simp at c0
  have h1' := Lib.hid h1
  have hl' := Lib.hid hl
  clear h1 hl
  go_enter Tryz.func113, Tryz.ntmps113
  go_wp2_with (at_builtin; (refine wpList_append_foot _ rfl (.tmp 10) (.tmp 11) 82 rfl 5 i0 (.int .u8 0) 1 Tryz.underlying82 hi hz0 hz1 hz2 rfl .u8 v l h2 B A r hs r.length c rfl rfl rfl (by have := hl'.out; simp [maxLen]; omega) (by have := hl'.out; omega) ?_; intro v' w' hown hgrow hblk; have lg := h1'.out.lt; have kg : Holds w' g 139 #[v] := (hgrow.block g lg (fun e => (h4 g e.symm).2 rfl)).trans h1'.out; have k0 := kg.cell 0; have kf := kg.free 0; simp at k0; obtain ⟨aa, cc, rfl, -, -⟩ := sees_own hown))
  go_end0
  obtain ⟨v', hv'⟩ : ∃ v', v' = Value.slice aa (l ++ r).length cc := ⟨_, rfl⟩
  have hv2 : Value.slice aa (l.length + r.length) cc = v' := by rw [hv', List.length_append]
  rw [← hv'] at hown hblk
  rw [hv2]
  clear hv' hv2
  refine ⟨rfl, g :: v'.ownBlock.toList, ⟨v', ?_, ?_, by simp, ?_, ?_⟩, ?_, ?_⟩
  · have := kg.set 0 v'
    simpa using this
  · refine ⟨hown.1, ?_⟩
    rcases hown.2 with h | ⟨g', cap, cur, hv, hg, hh, r⟩
    · exact .inl h
    · refine .inr ⟨g', cap, cur, hv, hg, ?_, r⟩
      rw [Below.heap_setCell _ _ _ _ ?_]
      · exact hh
      · show g' ≠ g
        rcases hblk with h5 | h5
        · exact (h4 g' (by rw [← h5, hv]; rfl)).2
        · rw [hv] at h5; simp [Value.ownBlock] at h5; omega
  · intro b hb
    rw [hb]
    refine ⟨by simp, ?_⟩
    rcases hblk with h5 | h5
    · exact (h4 b (by rw [← h5, hb])).2
    · rw [hb] at h5; simp at h5; omega
  · intro x hx
    have hz : (w'.setCell ⟨g, 0, none⟩ v').heap.size = w'.heap.size := by simp [World.setCell]
    rw [hz]
    simp at hx
    rcases hx with rfl | hx
    · exact kg.lt
    · exact (hown.lt x hx).2
  · have hb0 : BelowE F w.heap.size w w' := (BelowE.refl _ _ _).grown hgrow (Nat.le_refl _) (fun k hk _ => (h4 k hk).1)
    exact hb0.setIn (p := ⟨g, 0, none⟩) h3 _
  · intro x hx
    simp at hx
    rcases hx with rfl | hx
    · exact .inl h3
    · rcases hblk with h5 | h5
      · exact .inl (h4 x (by rw [← h5]; exact hx)).1
      · rw [hx] at h5; simp at h5; right; omega
end Go.Proofs.YtpchncpcckfghaaGreat
namespace Go.Proofs.YtpchncpcckfghaaGreat
open Go.RowKit
set_option linter.unusedVariables false
def NewPen (w : World) (e : Ending) (w' : World) : Prop := ∃ g F, e = .returned (.pointer (some ⟨g, 0, none⟩)) ∧ Pn w' g F [] ∧ Below w.heap.size w w' ∧ ∀ x ∈ F, w.heap.size ≤ x
theorem new_any (w : World) : Calls Tryz.prog 97 #[] w (NewPen w) := by
  go_enter Tryz.func97, Tryz.ntmps97
  go_wp2
  go_ret
  exact ⟨w.heap.size, [w.heap.size], rfl, ⟨.slice none 0 0, Holds.new _ _ _, ⟨rfl, .inl ⟨rfl, rfl⟩⟩, by simp, by simp [Value.ownBlock], by simp⟩, (Below.refl _ _).alloc (Nat.le_refl _) _, by simp⟩
theorem Writes.after {g : Nat} {F : List Nat} {l : List Int} {w w1 w' : World} {e : Ending} (hb : Below w.heap.size w w1) (h : Writes g F l w1 e w') : Writes g F l w e w' := by
  obtain ⟨h0, F', h1, h2, h3⟩ := h
  refine ⟨h0, F', h1, (BelowE.of hb).trans (h2.mono hb.size), fun x hx => ?_⟩
  rcases h3 x hx with h | h
  · exact .inl h
  · right; have := hb.size; omega
theorem Pn.ne {w : World} {g : Nat} {F : List Nat} {l : List Int} (h : Pn w g F l) : g < w.heap.size := by
  obtain ⟨v, h1, _⟩ := h; exact h1.lt
theorem pu_any (g : Nat) (F : List Nat) (l : List Int) (n : Int) (w : World) (h : Pn w g F l) (h0 : 0 ≤ n) (hU : U64 n) (hl : l.length ≤ 100000000000000) :
    Calls Tryz.prog 98 #[.pointer (some ⟨g, 0, none⟩), .int .u64 n] w (Writes g F (l ++ leb n.toNat) w) := by
  have hten := hU.le10
  have hput := Lib.hid (fun (A : Option Addr) (c : Nat) (w' : World) (hb : Below w.heap.size w w') (hs : Sees .u8 w'.heap.size w' A (leb n.toNat)) => pput_any g F l A (leb n.toNat) _ c rfl w'.heap.size w' (h.below hb) hs (by omega))
  clear h hl
  go_enter Tryz.func98, Tryz.ntmps98
  go_wp2_with fail
  refine (put_any n _ h0 hU).mono ?_
  intro e w1 h1
  obtain ⟨a1, c1, rfl, hs1, hb1⟩ := h1.open (leb n.toNat).length rfl
  clear h1
  go_wp2_with fail
  refine (hput.out a1 c1 w1 hb1 hs1).mono ?_
  rintro e w2 hw
  have hw' := Lib.hid hw
  obtain ⟨rfl, -⟩ := hw
  go_wp2
  go_end0
  exact Writes.after hb1 hw'.out
theorem ptext_any (g : Nat) (F : List Nat) (l : List Int) (s : ByteArray) (w : World) (h : Pn w g F l) (hs : s.size ≤ 140737488351232) (hl : l.length ≤ 100000000000000) (hls : l.length + s.size ≤ 140737488355000) :
    Calls Tryz.prog 99 #[.pointer (some ⟨g, 0, none⟩), .string s] w (Writes g F (l ++ (leb s.size ++ codes s)) w) := by
  have hU : U64 (s.size : Int) := by unfold U64; omega
  have hten := hU.le10
  have hput := Lib.hid (pu_any g F l (s.size : Int) w h (by omega) hU hl)
  have hlen : (codes s).length = s.size := codes_length s
  have htext := Lib.hid (fun (F' : List Nat) (A : Option Addr) (c : Nat) (w1 w2 : World) (hp : Pn w1 g F' (l ++ leb s.size)) (hb : Below w1.heap.size w1 w2) (hse : Sees .u8 w2.heap.size w2 A (codes s)) => pput_any g F' (l ++ leb s.size) A (codes s) s.size c hlen.symm w2.heap.size w2 (hp.below hb) hse (by simp at hten ⊢; omega))
  have hcv := Lib.hid (fun W : World => run_bytes_sees (P := Tryz.prog) W 9 82 5 s Tryz.underlying9 Tryz.underlying82 Tryz.underlying5)
  have hsz : s.size ≤ 9223372036854775807 := by omega
  clear h hl hten hlen hls hs hU
  go_enter Tryz.func99, Tryz.ntmps99
  go_wp2_with fail
  refine hput.out.mono ?_
  rintro e w1 ⟨rfl, F1, hp1, ht1⟩
  simp only [Int.toNat_natCast] at hp1
  obtain ⟨c, w2, hrun, hc, hse, hb, hz⟩ := hcv.out w1
  have hz' := Lib.hid hz
  clear hz
  go_wp2_with fail
  refine (htext.out F1 _ c w1 w2 hp1 hb hse).mono ?_
  rintro e w3 ⟨rfl, F2, hp2, ht2⟩
  go_wp2
  go_end0
  refine ⟨rfl, F2, by rw [← List.append_assoc]; exact hp2, ht1.trans ⟨(BelowE.of hb).trans (ht2.1.mono hb.size), fun x hx => ?_⟩⟩
  rcases ht2.2 x hx with h | h
  · exact .inl h
  · right; have := hb.size; omega
theorem pbytes_any (g : Nat) (F : List Nat) (l : List Int) (w : World) (h : Pn w g F l) (hl : l.length ≤ 140737488355328) :
    Calls Tryz.prog 101 #[.pointer (some ⟨g, 0, none⟩)] w (Made 5 .u8 w l) := by
  obtain ⟨v, h1, h2, _⟩ := h
  have c0 := h1.cell 0
  simp at c0
  obtain ⟨a, c, rfl, _, hs⟩ := sees_own h2
  have hcl := Lib.hid (clone_any a l l.length c rfl w.heap.size w hl hs)
  clear h1 h2 hs hl
  go_enter Tryz.func101, Tryz.ntmps101
  go_wp2_with fail
  refine hcl.out.mono ?_
  rintro e w1 hm
  have hm' := Lib.hid hm
  obtain ⟨v, rfl, -⟩ := hm
  go_wp2
  go_ret
  exact hm'.out
end Go.Proofs.YtpchncpcckfghaaGreat
namespace Go.Proofs.YtpchncpcckfghaaGreat
open Go.RowKit
set_option linter.unusedVariables false
set_option linter.unusedSimpArgs false
def keyL (k : Int) (f : ByteArray) (x : List Int) : List Int := leb (max k 0).toNat ++ ((leb f.size ++ codes f) ++ (leb x.length ++ x))
theorem strOf_size_codes {x : List Int} (h : Bs x) : leb (strOfNums x).size ++ codes (strOfNums x) = leb x.length ++ x := by
  rw [codes_str h, ← codes_length, codes_str h]
theorem Turns.allw {W w w' : World} {F F' : List Nat} (h : Turns F F' w w') (hb : Below W.heap.size W w) (hF : ∀ x ∈ F, W.heap.size ≤ x) : Below W.heap.size W w' ∧ ∀ x ∈ F', W.heap.size ≤ x :=
  ⟨hb.trans ((h.1.mono hb.size).toBelow hF), fun x hx => (h.2 x hx).elim (hF x) (fun h => Nat.le_trans hb.size h)⟩
set_option maxHeartbeats 2000000 in
theorem key_any (k : Int) (hk : (Lit.int .i64 k).wf = true) (f s : ByteArray) (hf : f.size ≤ 100000) (hs : s.size ≤ 100000) (w : World) :
    Calls Tryz.prog 71 #[.int .i64 k, .string f, .string s] w (Made 5 .u8 w (keyL k f (normS (codes s)))) := by
  have hk' := i64_wf hk
  have hn := Lib.hid (fun W => norm_any s hs W)
  have hT : (normS (codes s)).length ≤ 100000 := by have := normS_len (codes s); rw [codes_length] at this; omega
  have hTb : Bs (normS (codes s)) := norm_bs (parts_bs _ (Nat.le_refl _) (codes_bs s)) false
  have hm0 : 0 ≤ max k 0 := by omega
  have hm1 : U64 (max k 0) := by unfold U64; omega
  have h10 := hm1.le10
  have h10f := (show U64 (f.size : Int) by unfold U64; omega).le10
  simp only [Int.toNat_natCast] at h10f
  have hfl := codes_length f
  have hsz : (strOfNums (normS (codes s))).size ≤ 100000 := by rw [strOfNums_size]; exact hT
  have hx := Lib.hid (strOf_size_codes hTb)
  have hwr : IntKind.u64.wrap (max k 0) = max k 0 := wrap_u64_in hm0 hm1.2
  have hmax : Hid (max k 0 = max k 0) := Lib.hid rfl
  unfold keyL
  generalize normS (codes s) = T at *
  generalize strOfNums T = sT at *
  have p1 : ∀ g F W, Pn W g F [] → Calls Tryz.prog 98 #[.pointer (some ⟨g, 0, none⟩), .int .u64 (max k 0)] W (Writes g F (leb (max k 0).toNat) W) := fun g F W h => pu_any g F [] _ W h hm0 hm1 (by simp)
  have p2 : ∀ g F W, Pn W g F (leb (max k 0).toNat) → Calls Tryz.prog 99 #[.pointer (some ⟨g, 0, none⟩), .string f] W (Writes g F (leb (max k 0).toNat ++ (leb f.size ++ codes f)) W) := fun g F W h => ptext_any g F _ f W h (by omega) (by omega) (by omega)
  have p3 : ∀ g F W, Pn W g F (leb (max k 0).toNat ++ (leb f.size ++ codes f)) → Calls Tryz.prog 99 #[.pointer (some ⟨g, 0, none⟩), .string sT] W (Writes g F (leb (max k 0).toNat ++ ((leb f.size ++ codes f) ++ (leb T.length ++ T))) W) := fun g F W h => by
    have := ptext_any g F _ sT W h (by omega) (by simp; omega) (by simp; omega)
    rw [hx.out, List.append_assoc] at this
    exact this
  have p4 : ∀ g F W, Pn W g F (leb (max k 0).toNat ++ ((leb f.size ++ codes f) ++ (leb T.length ++ T))) → Calls Tryz.prog 101 #[.pointer (some ⟨g, 0, none⟩)] W (Made 5 .u8 W (leb (max k 0).toNat ++ ((leb f.size ++ codes f) ++ (leb T.length ++ T)))) := fun g F W h => pbytes_any g F _ W h (by
    have := (show U64 (T.length : Int) by unfold U64; omega).le10
    simp only [Int.toNat_natCast] at this
    simp; omega)
  have p1' := Lib.hid p1
  have p2' := Lib.hid p2
  have p3' := Lib.hid p3
  have p4' := Lib.hid p4
  clear p1 p2 p3 p4 h10 h10f hfl hsz hx hT hTb hf hs hk
  generalize leb (max k 0).toNat ++ ((leb f.size ++ codes f) ++ (leb T.length ++ T)) = L3 at *
  generalize leb (max k 0).toNat ++ (leb f.size ++ codes f) = L2 at *
  generalize leb (max k 0).toNat = L1 at *
  go_enter Tryz.func71, Tryz.ntmps71
  go_wp2_with fail
  refine (new_any w).mono ?_
  rintro e w1 ⟨g, F, rfl, q0, b0, f0⟩
  have q0' := Lib.hid q0
  have b0' := Lib.hid b0
  have f0' := Lib.hid f0
  clear q0 b0 f0
  go_wp2_with fail
  refine (p1'.out g F w1 q0'.out).mono ?_
  rintro e w2 ⟨rfl, F1, q1, t1⟩
  obtain ⟨b1, f1⟩ := t1.allw b0'.out f0'.out
  have q1' := Lib.hid q1
  have b1' := Lib.hid b1
  have f1' := Lib.hid f1
  clear q1 b1 f1 t1 q0' b0' f0' p1'
  go_wp2_with fail
  refine (p2'.out g F1 w2 q1'.out).mono ?_
  rintro e w3 ⟨rfl, F2, q2, t2⟩
  obtain ⟨b2, f2⟩ := t2.allw b1'.out f1'.out
  have q2' := Lib.hid q2
  have b2' := Lib.hid b2
  have f2' := Lib.hid f2
  clear q2 b2 f2 t2 q1' b1' f1' p2'
  go_wp2_with fail
  refine (hn.out w3).mono ?_
  rintro e w4 ⟨rfl, b3⟩
  have q3' := Lib.hid (q2'.out.below b3)
  have b3' := Lib.hid (b2'.out.trans (b3.mono b2'.out.size))
  clear b3 q2' b2' hn
  go_wp2_with fail
  refine (p3'.out g F2 w4 q3'.out).mono ?_
  rintro e w5 ⟨rfl, F3, q4, t4⟩
  obtain ⟨b4, f4⟩ := t4.allw b3'.out f2'.out
  have q4' := Lib.hid q4
  have b4' := Lib.hid b4
  clear q4 b4 f4 t4 q3' b3' f2' p3'
  go_wp2_with fail
  refine (p4'.out g F3 w5 q4'.out).mono ?_
  rintro e w6 h6
  have h6' := Lib.hid h6
  obtain ⟨v, rfl, -, -⟩ := h6
  go_wp2
  go_ret
  obtain ⟨v', e1, o1, bb⟩ := h6'.out
  exact ⟨v', e1, own_from o1 (fun q hq => Nat.le_trans b4'.out.size ((o1.lt q hq).1)), b4'.out.trans (bb.mono b4'.out.size)⟩
end Go.Proofs.YtpchncpcckfghaaGreat
namespace Go.Proofs.YtpchncpcckfghaaGreat
set_option linter.unusedVariables false
def fstep (s c : Int) : Int := (((s.toNat ^^^ c.toNat) * 1099511628211 % 18446744073709551616 : Nat) : Int)
def fsum (s : Int) (l : List Int) : Int := l.foldl fstep s
def InU (s : Int) : Prop := 0 ≤ s ∧ s ≤ 18446744073709551615
theorem fstep_in (s c : Int) : InU (fstep s c) := by
  unfold InU fstep
  have := Nat.mod_lt ((s.toNat ^^^ c.toNat) * 1099511628211) (show 0 < 18446744073709551616 by decide)
  omega
theorem xor_lt64 {a b : Nat} (ha : a < 18446744073709551616) (hb : b < 18446744073709551616) : a ^^^ b < 18446744073709551616 :=
  Nat.xor_lt_two_pow (n := 64) ha hb
theorem undo_mul (x : Nat) (hx : x < 18446744073709551616) : (x * 1099511628211 % 18446744073709551616) * 14886173955864302971 % 18446744073709551616 = x := by
  rw [Nat.mod_mul_mod, Nat.mul_assoc, show 1099511628211 * 14886173955864302971 = 18446744073709551616 * 887285111055 + 1 from by decide]
  rw [Nat.mul_add, Nat.mul_one, Nat.mul_left_comm, Nat.mul_add_mod]
  exact Nat.mod_eq_of_lt hx
theorem fsum_in {s : Int} (hs : InU s) (l : List Int) : InU (fsum s l) := by
  unfold fsum
  induction l generalizing s with
  | nil => exact hs
  | cons c l ih => exact ih (fstep_in s c)
theorem fsum_snoc (s : Int) (l : List Int) (c : Int) : fsum s (l ++ [c]) = fstep (fsum s l) c := by simp [fsum]
theorem fstep_inj {t x y : Int} (ht : InU t) (hx : InU x) (hy : InU y) (h : fstep t x = fstep t y) : x = y := by
  unfold InU at *
  unfold fstep at h
  have h1 : (t.toNat ^^^ x.toNat) * 1099511628211 % 18446744073709551616 = (t.toNat ^^^ y.toNat) * 1099511628211 % 18446744073709551616 := Int.ofNat.inj h
  have h2 := undo_mul (t.toNat ^^^ x.toNat) (xor_lt64 (by omega) (by omega))
  rw [h1, undo_mul (t.toNat ^^^ y.toNat) (xor_lt64 (by omega) (by omega))] at h2
  have h3 := congrArg (fun z => t.toNat ^^^ z) h2
  simp only [← Nat.xor_assoc, Nat.xor_self, Nat.zero_xor] at h3
  omega
end Go.Proofs.YtpchncpcckfghaaGreat
namespace Go.Proofs.YtpchncpcckfghaaGreat
open Go.RowKit
set_option linter.unusedVariables false
theorem fstep_walk {s c : Int} (hs : InU s) (hc : 0 ≤ c ∧ c ≤ 255) : IntKind.u64.wrap (bits .xor .u64 s c * 1099511628211) = fstep s c := by
  unfold InU at hs
  obtain ⟨a, rfl⟩ := Int.eq_ofNat_of_zero_le hs.1
  obtain ⟨b, rfl⟩ := Int.eq_ofNat_of_zero_le hc.1
  rw [bits_xor_u64_nat a b (by omega) (by omega), u64_wrap]
  unfold fstep
  rw [Int.toNat_natCast, Int.toNat_natCast, Int.natCast_emod, Int.natCast_mul]
  rfl
theorem getD_take_snoc {l : List Int} {k : Nat} (hk : k < l.length) : l.take (k + 1) = l.take k ++ [l.getD k 0] := by
  rw [List.take_succ_eq_append_getElem hk]; simp [List.getD, hk]
set_option maxHeartbeats 400000 in
theorem more_any (s : Int) (hs : InU s) (a : Option Addr) (l : List Int) (n cap : Nat) (hn : n = l.length) (B : Nat) (w : World) (hl : l.length ≤ maxLen) (hb : Bs l) (hc : Sees .u8 B w a l) :
    Calls Tryz.prog 68 #[.int .u64 s, .slice a n cap] w fun e w' => e = .returned (.int .u64 (fsum s l)) ∧ w = w' := by
  subst hn
  unfold maxLen at hl
  rcases hc with rfl | ⟨b, off, rfl, hB, hc⟩
  · go_enter Tryz.func68, Tryz.ntmps68
    go_wp2
    refine wp_loop_rounds 1 ?_
    rw [rounds_succ]
    go_wp2
    go_ret
    exact ⟨rfl, rfl⟩
  · go_enter Tryz.func68, Tryz.ntmps68
    go_wp2
    go_loop [0, 9] (fun x y => ∃ (k : Nat) (t : Int), k ≤ l.length ∧ Hid (t = fsum s (l.take k)) ∧ InU t ∧ x = .int .u64 t ∧ y = .int .i64 k) (fun _ y => l.length - (intOf y).toNat)
    case atStart => exact ⟨0, s, by omega, Lib.hid rfl, hs, rfl, rfl⟩
    case round =>
      obtain ⟨k, t, hk, ht, htu, rfl, rfl⟩ := hrel
      by_cases hlt : k < l.length
      · have hcell := hc k hlt
        have hr := hb.at hlt
        have hd := getD_take_snoc hlt
        generalize l.getD k 0 = c at *
        clear hc
        have e1 := fstep_walk htu hr
        have hfin : Hid (fstep t c = fsum s (l.take (k + 1))) := Lib.hid (by rw [hd, fsum_snoc, ← ht.out])
        clear hd
        go_wp2
        go_round
        case rel => exact ⟨k + 1, fstep t c, by omega, hfin, fstep_in _ _, rfl, by go_num⟩
        case measure => simp [intOf]; omega
      · have hfin : Hid (t = fsum s l) := Lib.hid (by rw [ht.out, List.take_of_length_le (by omega)])
        go_wp2
        go_ret
        exact ⟨by rw [← hfin.out]; rfl, rfl⟩
def fstart : Int := 14695981039346656037
theorem fstart_in : InU fstart := by unfold InU fstart; omega
theorem sum_any (a : Option Addr) (l : List Int) (n cap : Nat) (hn : n = l.length) (B : Nat) (w : World) (hl : l.length ≤ maxLen) (hb : Bs l) (hc : Sees .u8 B w a l) :
    Calls Tryz.prog 69 #[.slice a n cap] w fun e w' => e = .returned (.int .u64 (fsum fstart l)) ∧ w = w' := by
  subst hn
  have hm := Lib.hid (more_any fstart fstart_in a l l.length cap rfl B w hl hb hc)
  go_enter Tryz.func69, Tryz.ntmps69
  go_wp2_with (go_at_call 68; refine hm.out.mono ?_; rintro e w' ⟨rfl, rfl⟩)
  go_ret
  exact ⟨rfl, rfl⟩
end Go.Proofs.YtpchncpcckfghaaGreat
namespace Go.Proofs.YtpchncpcckfghaaGreat
set_option linter.unusedVariables false
set_option linter.unusedSimpArgs false
def keyA (a : AlD) : List Int := keyL a.kind a.fn (normS (codes a.expr))
def oneK (k : List Int) (r : Nat) : Int := fsum (fsum fstart k) (leb r)
def oneA (a : AlD) (r : Int) : Int := oneK (keyA a) (max r 0).toNat
def rankA (l : List AlD) (i : Nat) : Nat := rankL cmpA keyA l al0 i
theorem rank_le (l : List AlD) (i : Nat) : rankA l i ≤ l.length := by
  unfold rankA rankL
  have := List.countP_le_length (p := fun j => aheadB cmpA l al0 j i && decide (keyA (l.getD j al0) = keyA (l.getD i al0))) (l := List.range l.length)
  simpa using this
theorem normS_bs {L : List Int} (h : Bs L) : Bs (normS L) := norm_bs (parts_bs _ (Nat.le_refl _) h) false
end Go.Proofs.YtpchncpcckfghaaGreat
namespace Go.Proofs.YtpchncpcckfghaaGreat
open Go.RowKit
set_option linter.unusedVariables false
set_option linter.unusedSimpArgs false
def firstN : List Int → Int
  | [] => 0
  | x :: r => thenC x (firstN r)
theorem firstN_skip : ∀ (l : List Int) (k : Nat), (∀ j, j < k → l.getD j 0 = 0) → k ≤ l.length → firstN l = firstN (l.drop k)
  | l, 0, _, _ => rfl
  | [], k + 1, _, h => by simp at h
  | x :: l, k + 1, h, hk => by
    have h0 := h 0 (by omega)
    simp at h0
    subst h0
    show thenC 0 (firstN l) = _
    unfold thenC
    rw [if_pos rfl]
    exact firstN_skip l k (fun j hj => by have := h (j + 1) (by omega); simpa using this) (by simpa using hk)
theorem firstN_at {l : List Int} {k : Nat} (h : ∀ j, j < k → l.getD j 0 = 0) (hk : k < l.length) (h0 : l.getD k 0 ≠ 0) : firstN l = l.getD k 0 := by
  rw [firstN_skip l k h (by omega), List.drop_eq_getElem_cons hk]
  have e : l.getD k 0 = l[k] := by simp [List.getD, hk]
  rw [e] at h0 ⊢
  show thenC l[k] _ = _
  unfold thenC
  rw [if_neg h0]
theorem firstN_none {l : List Int} (h : ∀ j, j < l.length → l.getD j 0 = 0) : firstN l = 0 := by
  rw [firstN_skip l l.length h (Nat.le_refl _), List.drop_length]
  rfl
def keysA (a b : AlD) : List Int := [cmpT a.file b.file, cmpZ a.line b.line, cmpT a.fn b.fn, cmpZ a.kind b.kind, cmpT a.expr b.expr, cmpZ a.sev b.sev]
theorem cmpA_first (a b : AlD) : cmpA a b = firstN (keysA a b) := by
  unfold cmpA keysA firstN firstN firstN firstN firstN firstN firstN
  have : thenC (cmpZ a.sev b.sev) 0 = cmpZ a.sev b.sev := by unfold thenC; split <;> simp_all
  rw [this]
end Go.Proofs.YtpchncpcckfghaaGreat
namespace Go.Proofs.YtpchncpcckfghaaGreat
open Go.RowKit
set_option linter.unusedVariables false
set_option linter.unusedSimpArgs false
theorem snan_any (x : ByteArray) (w : World) : Calls Tryz.prog 143 #[.string x] w fun e w' => e = .returned (.bool false) ∧ w = w' := by
  have n1 : (x.toList == x.toList) = true := by simp
  go_enter Tryz.func143, Tryz.ntmps143
  go_wp2
  go_ret
  exact ⟨rfl, rfl⟩
theorem inan_any (x : Int) (w : World) : Calls Tryz.prog 105 #[.int .i64 x] w fun e w' => e = .returned (.bool false) ∧ w = w' := by
  go_enter Tryz.func105, Tryz.ntmps105
  go_wp2
  go_ret
  exact ⟨rfl, rfl⟩
theorem scompare_any (a b : ByteArray) (w : World) : Calls Tryz.prog 130 #[.string a, .string b] w fun e w' => e = .returned (.int .i64 (cmpT a b)) ∧ w = w' := by
  have l1 := less_is a b
  have q := Lib.hid (fun x W => snan_any x W)
  unfold cmpT
  cases h1 : lt8 (byt a) (byt b) with
  | true =>
    rw [h1] at l1
    rw [if_pos rfl]
    go_enter Tryz.func130, Tryz.ntmps130
    go_wp2_with fail
    with_reducible refine (q.out _ _).mono ?_
    rintro e w1 ⟨rfl, rfl⟩
    go_wp2_with fail
    with_reducible refine (q.out _ _).mono ?_
    rintro e w2 ⟨rfl, rfl⟩
    go_wp2
    go_ret
    exact ⟨rfl, rfl⟩
  | false =>
    rw [h1] at l1
    rw [if_neg (by simp)]
    cases h2 : lt8 (byt b) (byt a) with
    | true =>
      rw [if_pos rfl]
      have n1 : (a.toList == b.toList) = false := by
        rw [beq_eq_false_iff_ne]
        intro e
        rw [ByteArray.toList_eq, ByteArray.toList_eq] at e
        have e' : byt a = byt b := e
        rw [e', lt8_irrefl] at h2
        cases h2
      clear h1 h2
      go_enter Tryz.func130, Tryz.ntmps130
      go_wp2_with fail
      with_reducible refine (q.out _ _).mono ?_
      rintro e w1 ⟨rfl, rfl⟩
      go_wp2_with fail
      with_reducible refine (q.out _ _).mono ?_
      rintro e w2 ⟨rfl, rfl⟩
      go_wp2
      go_ret
      exact ⟨rfl, rfl⟩
    | false =>
      rw [if_neg (by simp)]
      have e := byt_inj (lt8_tri h1 h2)
      subst e
      have n1 : (a.toList == a.toList) = true := by simp
      clear h1 h2
      go_enter Tryz.func130, Tryz.ntmps130
      go_wp2_with fail
      with_reducible refine (q.out _ _).mono ?_
      rintro e w1 ⟨rfl, rfl⟩
      go_wp2_with fail
      with_reducible refine (q.out _ _).mono ?_
      rintro e w2 ⟨rfl, rfl⟩
      go_wp2
      go_ret
      exact ⟨rfl, rfl⟩
theorem icompare_any (a b : Int) (w : World) : Calls Tryz.prog 78 #[.int .i64 a, .int .i64 b] w fun e w' => e = .returned (.int .i64 (cmpZ a b)) ∧ w = w' := by
  have q := Lib.hid (fun x W => inan_any x W)
  unfold cmpZ
  by_cases h1 : a < b
  · rw [if_pos h1]
    go_enter Tryz.func78, Tryz.ntmps78
    go_wp2_with fail
    with_reducible refine (q.out _ _).mono ?_
    rintro e w1 ⟨rfl, rfl⟩
    go_wp2_with fail
    with_reducible refine (q.out _ _).mono ?_
    rintro e w2 ⟨rfl, rfl⟩
    go_wp2
    go_ret
    exact ⟨rfl, rfl⟩
  · rw [if_neg h1]
    by_cases h2 : b < a
    · rw [if_pos h2]
      go_enter Tryz.func78, Tryz.ntmps78
      go_wp2_with fail
      with_reducible refine (q.out _ _).mono ?_
      rintro e w1 ⟨rfl, rfl⟩
      go_wp2_with fail
      with_reducible refine (q.out _ _).mono ?_
      rintro e w2 ⟨rfl, rfl⟩
      go_wp2
      go_ret
      exact ⟨rfl, rfl⟩
    · rw [if_neg h2]
      go_enter Tryz.func78, Tryz.ntmps78
      go_wp2_with fail
      with_reducible refine (q.out _ _).mono ?_
      rintro e w1 ⟨rfl, rfl⟩
      go_wp2_with fail
      with_reducible refine (q.out _ _).mono ?_
      rintro e w2 ⟨rfl, rfl⟩
      go_wp2
      go_ret
      exact ⟨rfl, rfl⟩
end Go.Proofs.YtpchncpcckfghaaGreat
namespace Go.Proofs.YtpchncpcckfghaaGreat
open Go.RowKit Go.Sort
set_option linter.unusedVariables false
def Grows (w w' : World) : Prop := ∃ (q : Nat) (os : Array Obj), w' = grow (w.drewN q) os
theorem Grows.refl (w : World) : Grows w w := ⟨0, #[], by rw [grow_empty]; rfl⟩
theorem Grows.drewN {w w' : World} (h : Grows w w') (n : Nat) : Grows w (w'.drewN n) := by
  obtain ⟨q, os, rfl⟩ := h
  refine ⟨q + n, os, ?_⟩
  show World.drewN (grow _ _) n = _
  unfold grow World.drewN
  simp [Nat.add_assoc]
theorem Grows.drew {w w' : World} (h : Grows w w') : Grows w w'.drew := h.drewN 1
theorem Grows.trans {a b c : World} (h : Grows a b) (k : Grows b c) : Grows a c := by
  obtain ⟨q, os, rfl⟩ := k
  obtain ⟨q', os', hw⟩ := h.drewN q
  rw [hw]
  exact ⟨q', os' ++ os, grow_grow _ _ _⟩
theorem Grows.alloc {a w : World} (h : Grows a w) (o : Obj) : Grows a (w.alloc o) := h.trans ⟨0, #[o], by rw [alloc_eq_grow]; rfl⟩
theorem Grows.below {w w' : World} (h : Grows w w') : Below w.heap.size w w' := by
  obtain ⟨q, os, rfl⟩ := h
  refine ⟨rfl, rfl, rfl, ?_, fun k hk => ?_⟩
  · rw [size_grow]; exact Nat.le_add_right _ _
  · exact heap_grow_old (w.drewN q) os hk
theorem Grows.size {w w' : World} (h : Grows w w') : w.heap.size ≤ w'.heap.size := h.below.size
def GivesG (v : Value) (w : World) (e : Ending) (w' : World) : Prop := e = .returned v ∧ Grows w w'
end Go.Proofs.YtpchncpcckfghaaGreat
namespace Go.Proofs.YtpchncpcckfghaaGreat
open Go.RowKit
set_option linter.unusedVariables false
set_option linter.unusedSimpArgs false
theorem acm0_any (a b : AlD) (w : World) : Calls Tryz.prog 129 #[.agg #[.int .i64 a.kind, .int .i64 a.sev, .string a.fn, .string a.file, .int .i64 a.line, .string a.expr], .agg #[.int .i64 b.kind, .int .i64 b.sev, .string b.fn, .string b.file, .int .i64 b.line, .string b.expr]] w (GivesG (.int .i64 (cmpT a.file b.file)) w) := by
  have b0 : Hid (Grows w ((w.alloc (.cells #[.int .i64 a.kind, .int .i64 a.sev, .string a.fn, .string a.file, .int .i64 a.line, .string a.expr] 54)).alloc (.cells #[.int .i64 b.kind, .int .i64 b.sev, .string b.fn, .string b.file, .int .i64 b.line, .string b.expr] 54))) := Lib.hid (((Grows.refl w).alloc _).alloc _)
  have q := Lib.hid (fun W => scompare_any a.file b.file W)
  go_enter Tryz.func129, Tryz.ntmps129
  go_wp2_with fail
  with_reducible refine (q.out _).mono ?_
  rintro e w1 ⟨rfl, rfl⟩
  go_wp2
  go_ret
  exact ⟨rfl, b0.out⟩
theorem acm1_any (a b : AlD) (w : World) : Calls Tryz.prog 131 #[.agg #[.int .i64 a.kind, .int .i64 a.sev, .string a.fn, .string a.file, .int .i64 a.line, .string a.expr], .agg #[.int .i64 b.kind, .int .i64 b.sev, .string b.fn, .string b.file, .int .i64 b.line, .string b.expr]] w (GivesG (.int .i64 (cmpZ a.line b.line)) w) := by
  have b0 : Hid (Grows w ((w.alloc (.cells #[.int .i64 a.kind, .int .i64 a.sev, .string a.fn, .string a.file, .int .i64 a.line, .string a.expr] 54)).alloc (.cells #[.int .i64 b.kind, .int .i64 b.sev, .string b.fn, .string b.file, .int .i64 b.line, .string b.expr] 54))) := Lib.hid (((Grows.refl w).alloc _).alloc _)
  have q := Lib.hid (fun W => icompare_any a.line b.line W)
  go_enter Tryz.func131, Tryz.ntmps131
  go_wp2_with fail
  with_reducible refine (q.out _).mono ?_
  rintro e w1 ⟨rfl, rfl⟩
  go_wp2
  go_ret
  exact ⟨rfl, b0.out⟩
theorem acm2_any (a b : AlD) (w : World) : Calls Tryz.prog 132 #[.agg #[.int .i64 a.kind, .int .i64 a.sev, .string a.fn, .string a.file, .int .i64 a.line, .string a.expr], .agg #[.int .i64 b.kind, .int .i64 b.sev, .string b.fn, .string b.file, .int .i64 b.line, .string b.expr]] w (GivesG (.int .i64 (cmpT a.fn b.fn)) w) := by
  have b0 : Hid (Grows w ((w.alloc (.cells #[.int .i64 a.kind, .int .i64 a.sev, .string a.fn, .string a.file, .int .i64 a.line, .string a.expr] 54)).alloc (.cells #[.int .i64 b.kind, .int .i64 b.sev, .string b.fn, .string b.file, .int .i64 b.line, .string b.expr] 54))) := Lib.hid (((Grows.refl w).alloc _).alloc _)
  have q := Lib.hid (fun W => scompare_any a.fn b.fn W)
  go_enter Tryz.func132, Tryz.ntmps132
  go_wp2_with fail
  with_reducible refine (q.out _).mono ?_
  rintro e w1 ⟨rfl, rfl⟩
  go_wp2
  go_ret
  exact ⟨rfl, b0.out⟩
theorem acm3_any (a b : AlD) (w : World) : Calls Tryz.prog 133 #[.agg #[.int .i64 a.kind, .int .i64 a.sev, .string a.fn, .string a.file, .int .i64 a.line, .string a.expr], .agg #[.int .i64 b.kind, .int .i64 b.sev, .string b.fn, .string b.file, .int .i64 b.line, .string b.expr]] w (GivesG (.int .i64 (cmpZ a.kind b.kind)) w) := by
  have b0 : Hid (Grows w ((w.alloc (.cells #[.int .i64 a.kind, .int .i64 a.sev, .string a.fn, .string a.file, .int .i64 a.line, .string a.expr] 54)).alloc (.cells #[.int .i64 b.kind, .int .i64 b.sev, .string b.fn, .string b.file, .int .i64 b.line, .string b.expr] 54))) := Lib.hid (((Grows.refl w).alloc _).alloc _)
  have q := Lib.hid (fun W => icompare_any a.kind b.kind W)
  go_enter Tryz.func133, Tryz.ntmps133
  go_wp2_with fail
  with_reducible refine (q.out _).mono ?_
  rintro e w1 ⟨rfl, rfl⟩
  go_wp2
  go_ret
  exact ⟨rfl, b0.out⟩
theorem acm4_any (a b : AlD) (w : World) : Calls Tryz.prog 134 #[.agg #[.int .i64 a.kind, .int .i64 a.sev, .string a.fn, .string a.file, .int .i64 a.line, .string a.expr], .agg #[.int .i64 b.kind, .int .i64 b.sev, .string b.fn, .string b.file, .int .i64 b.line, .string b.expr]] w (GivesG (.int .i64 (cmpT a.expr b.expr)) w) := by
  have b0 : Hid (Grows w ((w.alloc (.cells #[.int .i64 a.kind, .int .i64 a.sev, .string a.fn, .string a.file, .int .i64 a.line, .string a.expr] 54)).alloc (.cells #[.int .i64 b.kind, .int .i64 b.sev, .string b.fn, .string b.file, .int .i64 b.line, .string b.expr] 54))) := Lib.hid (((Grows.refl w).alloc _).alloc _)
  have q := Lib.hid (fun W => scompare_any a.expr b.expr W)
  go_enter Tryz.func134, Tryz.ntmps134
  go_wp2_with fail
  with_reducible refine (q.out _).mono ?_
  rintro e w1 ⟨rfl, rfl⟩
  go_wp2
  go_ret
  exact ⟨rfl, b0.out⟩
theorem acm5_any (a b : AlD) (w : World) : Calls Tryz.prog 135 #[.agg #[.int .i64 a.kind, .int .i64 a.sev, .string a.fn, .string a.file, .int .i64 a.line, .string a.expr], .agg #[.int .i64 b.kind, .int .i64 b.sev, .string b.fn, .string b.file, .int .i64 b.line, .string b.expr]] w (GivesG (.int .i64 (cmpZ a.sev b.sev)) w) := by
  have b0 : Hid (Grows w ((w.alloc (.cells #[.int .i64 a.kind, .int .i64 a.sev, .string a.fn, .string a.file, .int .i64 a.line, .string a.expr] 54)).alloc (.cells #[.int .i64 b.kind, .int .i64 b.sev, .string b.fn, .string b.file, .int .i64 b.line, .string b.expr] 54))) := Lib.hid (((Grows.refl w).alloc _).alloc _)
  have q := Lib.hid (fun W => icompare_any a.sev b.sev W)
  go_enter Tryz.func135, Tryz.ntmps135
  go_wp2_with fail
  with_reducible refine (q.out _).mono ?_
  rintro e w1 ⟨rfl, rfl⟩
  go_wp2
  go_ret
  exact ⟨rfl, b0.out⟩
def cmpFs : List Nat := [129, 131, 132, 133, 134, 135]
theorem acm_any (a b : AlD) (i : Nat) (hi : i < 6) (w : World) : Calls Tryz.prog (cmpFs.getD i 0) #[.agg #[.int .i64 a.kind, .int .i64 a.sev, .string a.fn, .string a.file, .int .i64 a.line, .string a.expr], .agg #[.int .i64 b.kind, .int .i64 b.sev, .string b.fn, .string b.file, .int .i64 b.line, .string b.expr]] w (GivesG (.int .i64 ((keysA a b).getD i 0)) w) := by
  rcases (show i = 0 ∨ i = 1 ∨ i = 2 ∨ i = 3 ∨ i = 4 ∨ i = 5 by omega) with rfl | rfl | rfl | rfl | rfl | rfl
  · exact acm0_any a b w
  · exact acm1_any a b w
  · exact acm2_any a b w
  · exact acm3_any a b w
  · exact acm4_any a b w
  · exact acm5_any a b w
theorem acmpd_any (w : World) : Calls Tryz.prog 104 #[] w fun e w' => e = .returned (.slice (some ⟨w.heap.size, 0, none⟩) 6 6) ∧ w' = w.alloc (.cells #[.func (.func 129) #[] #[], .func (.func 131) #[] #[], .func (.func 132) #[] #[], .func (.func 133) #[] #[], .func (.func 134) #[] #[], .func (.func 135) #[] #[]] 97) := by
  go_enter Tryz.func104, Tryz.ntmps104
  go_wp2
  go_ret
  exact ⟨rfl, rfl⟩
set_option maxRecDepth 100000 in
set_option maxHeartbeats 4000000 in
theorem acmpg_any (a b : AlD) (w : World) : Calls Tryz.prog 77 #[.agg #[.int .i64 a.kind, .int .i64 a.sev, .string a.fn, .string a.file, .int .i64 a.line, .string a.expr], .agg #[.int .i64 b.kind, .int .i64 b.sev, .string b.fn, .string b.file, .int .i64 b.line, .string b.expr]] w (GivesG (.int .i64 (cmpA a b)) w) := by
  rw [cmpA_first]
  obtain ⟨u0, hu0⟩ : ∃ u0, u0 = (w.alloc (.cells #[.int .i64 a.kind, .int .i64 a.sev, .string a.fn, .string a.file, .int .i64 a.line, .string a.expr] 54)).alloc (.cells #[.int .i64 b.kind, .int .i64 b.sev, .string b.fn, .string b.file, .int .i64 b.line, .string b.expr] 54) := ⟨_, rfl⟩
  have b0 : Hid (Grows w u0) := Lib.hid (by rw [hu0]; exact ((Grows.refl w).alloc _).alloc _)
  have Z0 : Hid (Holds u0 w.heap.size 54 #[.int .i64 a.kind, .int .i64 a.sev, .string a.fn, .string a.file, .int .i64 a.line, .string a.expr]) := Lib.hid (by rw [hu0]; exact (Holds.new w _ _).alloc _)
  have Z1 : Hid (Holds u0 (w.heap.size + 1) 54 #[.int .i64 b.kind, .int .i64 b.sev, .string b.fn, .string b.file, .int .i64 b.line, .string b.expr]) := Lib.hid (by rw [hu0]; have q := Holds.new (w.alloc (.cells #[.int .i64 a.kind, .int .i64 a.sev, .string a.fn, .string a.file, .int .i64 a.line, .string a.expr] 54)) 54 #[.int .i64 b.kind, .int .i64 b.sev, .string b.fn, .string b.file, .int .i64 b.line, .string b.expr]; simpa using q)
  have hu0' := Lib.hid hu0
  clear hu0
  have qd := Lib.hid (fun W => acmpd_any W)
  have qc := Lib.hid (fun i hi W => acm_any a b i hi W)
  obtain ⟨kl, hke⟩ : ∃ kl, kl = keysA a b := ⟨_, rfl⟩
  have hkl : kl.length = 6 := by rw [hke]; rfl
  rw [← hke] at qc ⊢
  clear hke
  obtain ⟨ak, asv, af, afi, al, ax⟩ := a
  obtain ⟨bk, bsv, bf, bfi, bl, bx⟩ := b
  dsimp only at Z0 Z1 hu0' qc ⊢
  go_enter Tryz.func77, Tryz.ntmps77
  go_wp2_with fail
  rw [← hu0'.out]
  clear hu0'
  with_reducible refine (qd.out _).mono ?_
  rintro e v1 ⟨rfl, hv1⟩
  have c1 : ∀ i, i < 6 → v1.cell? ⟨u0.heap.size, i, none⟩ = some (.func (.func (cmpFs.getD i 0)) #[] #[]) := by
    intro i hi
    rw [hv1]
    have q := (Holds.new u0 97 #[.func (.func 129) #[] #[], .func (.func 131) #[] #[], .func (.func 132) #[] #[], .func (.func 133) #[] #[], .func (.func 134) #[] #[], .func (.func 135) #[] #[]]).cell i
    rw [q]
    rcases (show i = 0 ∨ i = 1 ∨ i = 2 ∨ i = 3 ∨ i = 4 ∨ i = 5 by omega) with rfl | rfl | rfl | rfl | rfl | rfl <;> rfl
  have b1 : Below u0.heap.size u0 v1 := by rw [hv1]; exact box_below _ _ _
  have b1g : Grows u0 v1 := by rw [hv1]; exact (Grows.refl u0).alloc _
  have g1 : u0.heap.size < v1.heap.size := by rw [hv1]; simp
  have C1 := Lib.hid c1
  have G1 := Lib.hid g1
  replace Z0 := Lib.hid (Z0.out.below b1 Z0.out.lt)
  replace Z1 := Lib.hid (Z1.out.below b1 Z1.out.lt)
  replace b0 := Lib.hid (b0.out.trans b1g)
  clear hv1 b1 b1g c1 g1 qd
  generalize u0.heap.size = g at *
  go_wp2
  go_loopw [10] (fun x wr => ∃ i : Nat, i ≤ 6 ∧ x = .int .i64 i ∧ Hid (∀ j, j < i → kl.getD j 0 = 0) ∧ Hid (Grows v1 wr)) (fun x _ => 6 - (intOf x).toNat)
  case atStart => exact ⟨0, by omega, rfl, Lib.hid (fun j hj => by omega), Lib.hid (Grows.refl _)⟩
  case round =>
    obtain ⟨i, hi, rfl, hz, hB⟩ := hrel
    by_cases hlt6 : i < 6
    · have hii : (i : Int) < 6 := by omega
      have hc := (hB.out.below.cell (p := ⟨g, i, none⟩) G1.out).trans (C1.out i hlt6)
      have hat := Lib.hid (fun h0 => firstN_at hz.out (show i < kl.length by omega) h0)
      have hnext : Hid (kl.getD i 0 = 0 → ∀ j, j < i + 1 → kl.getD j 0 = 0) := Lib.hid (fun h j hj => by
        by_cases e : j = i
        · rw [e]; exact h
        · exact hz.out j (by omega))
      have qi := Lib.hid (fun W => qc.out i hlt6 W)
      generalize kl.getD i 0 = v at qi hat hnext
      have hfs : cmpFs.getD i 0 = 129 ∨ cmpFs.getD i 0 = 131 ∨ cmpFs.getD i 0 = 132 ∨ cmpFs.getD i 0 = 133 ∨ cmpFs.getD i 0 = 134 ∨ cmpFs.getD i 0 = 135 := by
        rcases (show i = 0 ∨ i = 1 ∨ i = 2 ∨ i = 3 ∨ i = 4 ∨ i = 5 by omega) with rfl | rfl | rfl | rfl | rfl | rfl <;> simp [cmpFs]
      generalize cmpFs.getD i 0 = fi at hc qi hfs
      have x0 := (Z0.out.below hB.out.below Z0.out.lt).cell 0
      have x1 := (Z0.out.below hB.out.below Z0.out.lt).cell 1
      have x2 := (Z0.out.below hB.out.below Z0.out.lt).cell 2
      have x3 := (Z0.out.below hB.out.below Z0.out.lt).cell 3
      have x4 := (Z0.out.below hB.out.below Z0.out.lt).cell 4
      have x5 := (Z0.out.below hB.out.below Z0.out.lt).cell 5
      have y0 := (Z1.out.below hB.out.below Z1.out.lt).cell 0
      have y1 := (Z1.out.below hB.out.below Z1.out.lt).cell 1
      have y2 := (Z1.out.below hB.out.below Z1.out.lt).cell 2
      have y3 := (Z1.out.below hB.out.below Z1.out.lt).cell 3
      have y4 := (Z1.out.below hB.out.below Z1.out.lt).cell 4
      have y5 := (Z1.out.below hB.out.below Z1.out.lt).cell 5
      simp at x0 x1 x2 x3 x4 x5 y0 y1 y2 y3 y4 y5
      rcases hfs with rfl | rfl | rfl | rfl | rfl | rfl
      all_goals
        go_wp2_with fail
        with_reducible refine (qi.out _).mono ?_
        rintro e v2 ⟨rfl, b2⟩
        replace hB := Lib.hid (hB.out.trans b2)
        clear b2 x0 x1 x2 x3 x4 x5 y0 y1 y2 y3 y4 y5 hc qi
        by_cases h0 : v = 0
        · have hn := Lib.hid (hnext.out h0)
          subst h0
          clear hat
          go_wp2
          go_roundw
          case rel => exact ⟨i + 1, by omega, by go_num, hn, hB⟩
          case measure => simp [intOf]; omega
        · have h0' : (v == 0) = false := by rw [beq_eq_false_iff_ne]; exact h0
          have hv := Lib.hid (hat.out h0)
          clear hat hnext
          go_wp2
          go_ret
          exact ⟨by rw [hv.out]; rfl, b0.out.trans hB.out⟩
    · have hii : ¬ (i : Int) < 6 := by omega
      have hv := Lib.hid (firstN_none (l := kl) (fun j hj => hz.out j (by omega)))
      go_wp2
      go_ret
      exact ⟨by rw [hv.out]; rfl, b0.out.trans hB.out⟩
end Go.Proofs.YtpchncpcckfghaaGreat
namespace Go.Proofs.YtpchncpcckfghaaGreat
open Go.RowKit
set_option linter.unusedVariables false
set_option linter.unusedSimpArgs false
theorem for2_any (x y : Int) (g : Nat) (w : World) (c0 : w.cell? ⟨g, 0, none⟩ = some (.int .i64 x)) (c1 : w.cell? ⟨g, 1, none⟩ = some (.int .i64 y)) :
    Calls Tryz.prog 76 #[.slice (some ⟨g, 0, none⟩) 2 2] w (Tells (.int .i64 (thenC x y)) w) := by
  by_cases hx : x = 0
  · subst hx
    have e : thenC 0 y = y := rfl
    rw [e]
    by_cases hy : y = 0
    · subst hy
      go_enter Tryz.func76, Tryz.ntmps76
      go_wp2
      refine wp_loop_rounds 3 ?_
      rw [rounds_succ]
      go_wp2
      rw [rounds_succ]
      go_wp2
      rw [rounds_succ]
      go_wp2
      go_ret
      exact ⟨rfl, rfl⟩
    · have hy' : (y == 0) = false := by rw [beq_eq_false_iff_ne]; exact hy
      go_enter Tryz.func76, Tryz.ntmps76
      go_wp2
      refine wp_loop_rounds 3 ?_
      rw [rounds_succ]
      go_wp2
      rw [rounds_succ]
      go_wp2
      go_ret
      exact ⟨rfl, rfl⟩
  · have e : thenC x y = x := if_neg hx
    have hx' : (x == 0) = false := by rw [beq_eq_false_iff_ne]; exact hx
    rw [e]
    clear e hx
    go_enter Tryz.func76, Tryz.ntmps76
    go_wp2
    refine wp_loop_rounds 3 ?_
    rw [rounds_succ]
    go_wp2
    go_ret
    exact ⟨rfl, rfl⟩
set_option maxRecDepth 100000 in
set_option maxHeartbeats 4000000 in
theorem fcl_any (l : List AlD) (a : Option Addr) (n c Bl : Nat) (u0 : World) (h : RO alC u0 a n c l) (hbox : u0.cell? ⟨Bl, 0, none⟩ = some (.slice a n c)) (hBl : Bl < u0.heap.size) (i j : Nat) (hi : i < n) (hj : j < n) :
    Calls Tryz.prog 75 #[.int .i64 i, .int .i64 j, .pointer (some ⟨Bl, 0, none⟩)] u0 (GivesG (.int .i64 (thenC (cmpA (l.getD i al0) (l.getD j al0)) (cmpZ (i : Int) (j : Int)))) u0) := by
  have q1 := Lib.hid (fun W => acmpg_any (l.getD i al0) (l.getD j al0) W)
  have q2 := Lib.hid (fun W => icompare_any (i : Int) (j : Int) W)
  have q3 := Lib.hid (fun (g : Nat) (W : World) c0 c1 => for2_any (cmpA (l.getD i al0) (l.getD j al0)) (cmpZ (i : Int) (j : Int)) g W c0 c1)
  have yb : ∀ W, Grows u0 W → W.cell? ⟨Bl, 0, none⟩ = some (.slice a n c) := fun W hW => (hW.below.cell (p := ⟨Bl, 0, none⟩) hBl).trans hbox
  have hii : (i : Int) < (n : Int) := by omega
  have hjj : (j : Int) < (n : Int) := by omega
  have hm : (n : Int) ≤ 9223372036854775807 := by have := h.max'; omega
  obtain ⟨b, off, rfl, hB, x0, x1, x2, x3, x4, x5⟩ := al_at h hi
  obtain ⟨b', off', hbb, -, z0, z1, z2, z3, z4, z5⟩ := al_at h hj
  injection hbb with hbb
  injection hbb with hb1 hb2
  subst hb1 hb2
  have hRO := Lib.hid h
  clear h
  have p0 : ∀ W, Grows u0 W → W.cell? ⟨b, off + i * 6, none⟩ = some (.int .i64 (l.getD i al0).kind) := fun W hW => (hW.below.cell (p := ⟨b, off + i * 6, none⟩) hB).trans x0
  have p1 : ∀ W, Grows u0 W → W.cell? ⟨b, off + i * 6 + 1, none⟩ = some (.int .i64 (l.getD i al0).sev) := fun W hW => (hW.below.cell (p := ⟨b, off + i * 6 + 1, none⟩) hB).trans x1
  have p2 : ∀ W, Grows u0 W → W.cell? ⟨b, off + i * 6 + 2, none⟩ = some (.string (l.getD i al0).fn) := fun W hW => (hW.below.cell (p := ⟨b, off + i * 6 + 2, none⟩) hB).trans x2
  have p3 : ∀ W, Grows u0 W → W.cell? ⟨b, off + i * 6 + 3, none⟩ = some (.string (l.getD i al0).file) := fun W hW => (hW.below.cell (p := ⟨b, off + i * 6 + 3, none⟩) hB).trans x3
  have p4 : ∀ W, Grows u0 W → W.cell? ⟨b, off + i * 6 + 4, none⟩ = some (.int .i64 (l.getD i al0).line) := fun W hW => (hW.below.cell (p := ⟨b, off + i * 6 + 4, none⟩) hB).trans x4
  have p5 : ∀ W, Grows u0 W → W.cell? ⟨b, off + i * 6 + 5, none⟩ = some (.string (l.getD i al0).expr) := fun W hW => (hW.below.cell (p := ⟨b, off + i * 6 + 5, none⟩) hB).trans x5
  have r0 : ∀ W, Grows u0 W → W.cell? ⟨b, off + j * 6, none⟩ = some (.int .i64 (l.getD j al0).kind) := fun W hW => (hW.below.cell (p := ⟨b, off + j * 6, none⟩) hB).trans z0
  have r1 : ∀ W, Grows u0 W → W.cell? ⟨b, off + j * 6 + 1, none⟩ = some (.int .i64 (l.getD j al0).sev) := fun W hW => (hW.below.cell (p := ⟨b, off + j * 6 + 1, none⟩) hB).trans z1
  have r2 : ∀ W, Grows u0 W → W.cell? ⟨b, off + j * 6 + 2, none⟩ = some (.string (l.getD j al0).fn) := fun W hW => (hW.below.cell (p := ⟨b, off + j * 6 + 2, none⟩) hB).trans z2
  have r3 : ∀ W, Grows u0 W → W.cell? ⟨b, off + j * 6 + 3, none⟩ = some (.string (l.getD j al0).file) := fun W hW => (hW.below.cell (p := ⟨b, off + j * 6 + 3, none⟩) hB).trans z3
  have r4 : ∀ W, Grows u0 W → W.cell? ⟨b, off + j * 6 + 4, none⟩ = some (.int .i64 (l.getD j al0).line) := fun W hW => (hW.below.cell (p := ⟨b, off + j * 6 + 4, none⟩) hB).trans z4
  have r5 : ∀ W, Grows u0 W → W.cell? ⟨b, off + j * 6 + 5, none⟩ = some (.string (l.getD j al0).expr) := fun W hW => (hW.below.cell (p := ⟨b, off + j * 6 + 5, none⟩) hB).trans z5
  clear x0 x1 x2 x3 x4 x5 z0 z1 z2 z3 z4 z5 hbox
  generalize cmpA (l.getD i al0) (l.getD j al0) = k1 at *
  generalize cmpZ (i : Int) (j : Int) = k2 at *
  generalize thenC k1 k2 = kk at *
  generalize l.getD i al0 = A at *
  generalize l.getD j al0 = B at *
  obtain ⟨ak, asv, af, afi, al, ax⟩ := A
  obtain ⟨bk, bsv, bf, bfi, bl, bx⟩ := B
  dsimp only at *
  go_enter Tryz.func75, Tryz.ntmps75
  go_wp2
  refine wp_drawn_on (fun W => Grows u0 W) (by kernel_rfl) ((Grows.refl _).drew) (fun hHeld => ?_)
  refine wT 0 (v := ?v1) rfl (by kernel_rfl) (fun _ _ _ h => h) ?h1 (by assumption) ?r1
  case h1 => (intro w hSw; (try dsimp only at hSw); go_simp; try with_reducible rfl)
  refine wT 1 (v := ?v2) rfl (by kernel_rfl) (fun _ _ _ h => h) ?h2 (by assumption) ?r2
  case h2 => (intro w hSw; (try dsimp only at hSw); go_simp; try with_reducible rfl)
  refine wT 2 (v := ?v3) rfl (by kernel_rfl) (fun _ _ _ h => h) ?h3 (by assumption) ?r3
  case h3 => (intro w hSw; (try dsimp only at hSw); go_simp; try with_reducible rfl)
  refine wT 3 (v := ?v4) rfl (by kernel_rfl) (fun _ _ _ h => h) ?h4 (by assumption) ?r4
  case h4 => (intro w hSw; (try dsimp only at hSw); go_simp; try with_reducible rfl)
  refine wT 4 (v := ?v5) rfl (by kernel_rfl) (fun _ _ _ h => h) ?h5 (by assumption) ?r5
  case h5 => (intro w hSw; (try dsimp only at hSw); go_simp; try with_reducible rfl)
  refine wT 5 (v := ?v6) rfl (by kernel_rfl) (fun _ _ _ h => h) ?h6 (by assumption) ?r6
  case h6 => (intro w hSw; (try dsimp only at hSw); go_simp; try with_reducible rfl)
  refine wT 6 (v := ?v7) rfl (by kernel_rfl) (fun _ _ _ h => h) ?h7 (by assumption) ?r7
  case h7 => (intro w hSw; (try dsimp only at hSw); go_simp; try with_reducible rfl)
  refine wT 7 (v := ?v8) rfl (by kernel_rfl) (fun _ _ _ h => h) ?h8 (by assumption) ?r8
  case h8 => (intro w hSw; (try dsimp only at hSw); go_simp; try with_reducible rfl)
  refine wT 9 (v := ?v9) rfl (by kernel_rfl) (fun _ _ _ h => h) ?h9 (by assumption) ?r9
  case h9 => (intro w hSw; (try dsimp only at hSw); go_simp; try with_reducible rfl)
  refine wT 10 (v := ?v10) rfl (by kernel_rfl) (fun _ _ _ h => h) ?h10 (by assumption) ?r10
  case h10 => (intro w hSw; (try dsimp only at hSw); go_simp; try with_reducible rfl)
  try simp only [Act.put, List.setIfInBounds_toArray, List.set_cons_zero, List.set_cons_succ]
  refine wpAnyH_ready (rs := [8]) (by kernel_rfl) (by simp) ?_
  refine AllReadyH.cons (o := ⟨_, _, _, _, _, _⟩) rfl (fun K hK => ?_) AllReadyH.nil
  go_simp
  with_reducible refine (q1.out _).mono ?_
  rintro e v1 ⟨rfl, b1⟩
  go_simp
  refine hK.out _ _ (hHeld.trans b1) (fun hHeld => ?_)
  clear hK K
  try simp only [Act.put, List.setIfInBounds_toArray, List.set_cons_zero, List.set_cons_succ]
  refine wpAnyH_ready (rs := [11]) (by kernel_rfl) (by simp) ?_
  refine AllReadyH.cons (o := ⟨_, _, _, _, _, _⟩) rfl (fun K hK => ?_) AllReadyH.nil
  go_simp
  with_reducible refine (q2.out _).mono ?_
  rintro e w2 ⟨rfl, rfl⟩
  go_simp
  refine hK.out _ _ (hHeld) (fun hHeld => ?_)
  clear hK K
  try simp only [Act.put, List.setIfInBounds_toArray, List.set_cons_zero, List.set_cons_succ]
  refine wpAnyH_ready (rs := [12]) (by kernel_rfl) (by simp) ?_
  refine AllReadyH.cons (o := ⟨_, _, _, _, _, _⟩) rfl (fun K hK => ?_) AllReadyH.nil
  go_simp
  obtain ⟨v12, hv12⟩ : ∃ v12, v12 = v1.alloc (.cells #[.int .i64 k1, .int .i64 k2] 3) := ⟨_, rfl⟩
  have hx12 : Grows v1 v12 := (by rw [hv12]; exact (Grows.refl _).alloc _)
  have q4 := Lib.hid (q3.out v1.heap.size v12 (by rw [hv12]; exact (Holds.new v1 3 #[.int .i64 k1, .int .i64 k2]).cell 0) (by rw [hv12]; exact (Holds.new v1 3 #[.int .i64 k1, .int .i64 k2]).cell 1))
  rw [← hv12]
  clear hv12
  refine hK.out _ _ (hHeld.trans hx12) (fun hHeld => ?_)
  clear hK K
  try simp only [Act.put, List.setIfInBounds_toArray, List.set_cons_zero, List.set_cons_succ]
  refine wpAnyH_ready (rs := [13]) (by kernel_rfl) (by simp) ?_
  refine AllReadyH.cons (o := ⟨_, _, _, _, _, _⟩) rfl (fun K hK => ?_) AllReadyH.nil
  go_simp
  with_reducible refine q4.out.mono ?_
  rintro e w2 ⟨rfl, rfl⟩
  go_simp
  refine hK.out _ _ (hHeld) (fun hHeld => ?_)
  clear hK K
  refine wT 14 (v := ?v11) rfl (by kernel_rfl) (fun _ _ _ h => h) ?h11 (by assumption) ?r11
  case h11 => (intro w hSw; (try dsimp only at hSw); go_simp; try with_reducible rfl)
  try simp only [Act.put, List.setIfInBounds_toArray, List.set_cons_zero, List.set_cons_succ]
  refine wpAnyH_done (by kernel_rfl) ?_ _
  have hG := Lib.hid hHeld
  clear hHeld
  go_wp2
  go_ret
  exact ⟨rfl, hG.out⟩
theorem sort_belowE {α : Type} [Inhabited α] (enc : α → Value) (w : World) (g off m : Nat) (d : Array α) (os : Array Obj) : BelowE [g] w.heap.size w (sortWorld enc w g off m d os) := by
  unfold sortWorld
  refine ⟨rfl, rfl, rfl, ?_, fun k hk hx => ?_⟩
  · rw [Go.Sort.size_grow]
    simp [Go.Sort.putRow, Go.Sort.mapBlock, Go.Sort.ahead]
  · rw [Go.Sort.heap_grow_old]
    · have hne : g ≠ k := fun e => hx (by simp [e])
      simp [Go.Sort.putRow, Go.Sort.mapBlock, Go.Sort.ahead, Array.getElem?_modify, hne]
    · simpa [Go.Sort.putRow, Go.Sort.mapBlock, Go.Sort.ahead] using hk
set_option maxHeartbeats 1000000 in
theorem fsort_any (l : List AlD) (a : Option Addr) (n c g Bl : Nat) (w0 w : World) (h0 : RO alC w0 a n c l) (hb : Below w0.heap.size w0 w) (hg : w0.heap.size ≤ g) (hgl : g < w.heap.size) (hBl : Bl < w.heap.size) (hne : Bl ≠ g)
    (hbox : w.cell? ⟨Bl, 0, none⟩ = some (.slice a n c)) (hrow : ∀ j, j < n → w.cell? ⟨g, j, none⟩ = some (.int .i64 (j : Int)) ∧ w.frozen? ⟨g, j, none⟩ = false) (hn : n < 4611686018427387904) :
    Calls Tryz.prog 74 #[.slice (some ⟨g, 0, none⟩) n n, .func (.func 75) #[] #[.pointer (some ⟨Bl, 0, none⟩)]] w fun e w' =>
      e = .returned (.tuple #[]) ∧ BelowE [g] w.heap.size w w' ∧ ∀ j, j < n → w'.cell? ⟨g, j, none⟩ = some (.int .i64 ((placesF l al0 n).getD j 0 : Nat)) := by
  by_cases hn0 : n = 0
  · subst hn0
    refine (Tryz.slices_SortFunc_none (α := Nat) _ 0 _ w).mono ?_
    rintro e w' ⟨rfl, rfl⟩
    exact ⟨rfl, BelowE.refl _ _ _, fun j hj => by omega⟩
  haveI : Inhabited (Fin n) := ⟨⟨0, by omega⟩⟩
  have eg : ∀ args w, (callFunc 75 args).run Tryz.prog w = .ok (.enter 75 args) w := enters_of Tryz.func75 (by kernel_rfl) rfl
  have hfs : (List.finRange n).toArray.size = n := by simp
  have hcmp : CmpLays1 Tryz.prog 75 #[.pointer (some ⟨Bl, 0, none⟩)] (fun i : Fin n => Value.int .i64 (i.val : Int)) (cfF l al0 n) g 0 (List.finRange n).toArray.size w := by
    intro m os dk hs x y
    have hE := sort_belowE (fun i : Fin n => Value.int .i64 (i.val : Int)) w g 0 m dk os
    have hb1 : Below w0.heap.size w0 (sortWorld (fun i : Fin n => Value.int .i64 (i.val : Int)) w g 0 m dk os) := hb.trans ((hE.mono hb.size).toBelow (by intro x hx; simp at hx; omega))
    have hx1 : (sortWorld (fun i : Fin n => Value.int .i64 (i.val : Int)) w g 0 m dk os).cell? ⟨Bl, 0, none⟩ = some (.slice a n c) := (hE.cell (p := ⟨Bl, 0, none⟩) hBl (by simpa using hne)).trans hbox
    have q := fcl_any l a n c Bl _ (h0.below hb1) hx1 (Nat.lt_of_lt_of_le hBl hE.size) x.val y.val x.isLt y.isLt
    exact q.mono fun e w' h => h
  have hH : Go.Sort.Holds (fun i : Fin n => Value.int .i64 (i.val : Int)) w g 0 (List.finRange n).toArray := by
    intro j hj
    rw [hfs] at hj
    have e : (List.finRange n).toArray[j]! = ⟨j, hj⟩ := by
      rw [getElem!_pos _ j (by simpa using hj)]
      simp
    rw [e, Nat.zero_add]
    exact hrow j hj
  have hS := Tryz.slices_SortFunc_total (fun i : Fin n => Value.int .i64 (i.val : Int)) (fun _ => rfl) (cfF l al0 n) (cmF l al0 n).swo 75 #[.pointer (some ⟨Bl, 0, none⟩)] g 0 n (List.finRange n).toArray w eg hcmp hH hgl (by rw [hfs]; exact hn) (cmF l al0 n).tot
  rw [hfs] at hS
  refine hS.mono ?_
  rintro e w' ⟨rfl, m, os, rfl⟩
  refine ⟨rfl, sort_belowE _ w g 0 m _ os, fun j hj => ?_⟩
  unfold sortWorld
  rw [Go.Sort.cell?_grow _ _ _ (by simpa [Go.Sort.putRow, Go.Sort.mapBlock, Go.Sort.ahead] using hgl)]
  have hH2 := Go.Sort.holds_putRow (fun i : Fin n => Value.int .i64 (i.val : Int)) (Go.Sort.ahead w m) g 0 (List.finRange n).toArray ((List.finRange n).mergeSort fun x y => !(ltOf (cfF l al0 n)) y x).toArray hH (by simp)
  have hj2 : j < ((List.finRange n).mergeSort fun x y => !(ltOf (cfF l al0 n)) y x).length := by simpa using hj
  have q := (hH2 j (by simpa using hj)).1
  rw [Nat.zero_add] at q
  simp only [List.toList_toArray]
  rw [q, getElem!_pos _ j (by simpa using hj)]
  congr 2
  simp [placesF, List.getD, hj]
end Go.Proofs.YtpchncpcckfghaaGreat
namespace Go.Proofs.YtpchncpcckfghaaGreat
open Go.RowKit
set_option linter.unusedVariables false
set_option linter.unusedSimpArgs false
theorem keyL_bs (k : Int) (f : ByteArray) {x : List Int} (hx : Bs x) : Bs (keyL k f x) := by
  intro c hc
  simp only [keyL, List.mem_append] at hc
  rcases hc with hc | (hc | hc) | hc | hc
  · exact leb_bytes _ c hc
  · exact leb_bytes _ c hc
  · exact codes_bs f c hc
  · exact leb_bytes _ c hc
  · exact hx c hc
theorem keyL_len (k : Int) (hk : (Lit.int .i64 k).wf = true) (f : ByteArray) (hf : f.size ≤ 1000) {x : List Int} (hx : x.length ≤ 1000) : (keyL k f x).length ≤ 100000 := by
  have := i64_wf hk
  have h1 := leb_len64 (n := (max k 0).toNat) (by omega)
  have h2 := leb_len64 (n := f.size) (by omega)
  have h3 := leb_len64 (n := x.length) (by omega)
  have h4 := codes_length f
  simp only [keyL, List.length_append]; omega
end Go.Proofs.YtpchncpcckfghaaGreat
namespace Go.Proofs.YtpchncpcckfghaaGreat
open Go.RowKit
set_option linter.unusedVariables false
def TailR (base : Nat) (w : World) (e : TypeId) (g n c : Nat) (l : List Int) : Prop :=
  ∃ cur fz, base ≤ g ∧ w.heap[g]? = some (.cells cur e fz) ∧ c ≤ fz.1 ∧ n = l.length ∧ n ≤ c ∧ cur.size = c ∧ cur.toList.take n = nums .u8 l
theorem TailR.below {base : Nat} {w w' : World} {e : TypeId} {g n c : Nat} {l : List Int} (h : TailR base w e g n c l) (hb : Below w.heap.size w w') : TailR base w' e g n c l := by
  obtain ⟨cur, fz, h1, h2, h3⟩ := h
  exact ⟨cur, fz, h1, (hb.block g (Array.getElem?_eq_some_iff.1 h2).1).trans h2, h3⟩
theorem TailR.cells {base : Nat} {w : World} {e : TypeId} {g n c : Nat} {l : List Int} (h : TailR base w e g n c l) : ∀ j u, (nums .u8 l)[j]? = some u → w.cell? ((⟨g, 0, none⟩ : Addr).add j) = some u := by
  intro j u hu
  obtain ⟨cur, fz, _, h2, _, hn, hnc, hcs, htake⟩ := h
  have hadd : (⟨g, 0, none⟩ : Addr).add j = ⟨g, j, none⟩ := by unfold Addr.add; split <;> simp_all
  rw [hadd, cell_of_row w g j cur e fz h2]
  rw [← htake, List.getElem?_take] at hu
  split at hu
  · simpa using hu
  · cases hu
end Go.Proofs.YtpchncpcckfghaaGreat
namespace Go.Proofs.YtpchncpcckfghaaGreat
open Go.RowKit
set_option linter.unusedVariables false
set_option linter.unusedSimpArgs false
theorem keyA_bs (a : AlD) : Bs (keyA a) := keyL_bs a.kind a.fn (normS_bs (codes_bs _))
theorem keyA_len (a : AlD) (hk : (Lit.int .i64 a.kind).wf = true) (h : smallA a) : (keyA a).length ≤ 100000 := keyL_len a.kind hk a.fn (by have := h.1; omega) (by have := normS_len (codes a.expr); rw [codes_length] at this; have := h.2.2; omega)
theorem fkey_any (a : AlD) (hk : (Lit.int .i64 a.kind).wf = true) (h : smallA a) (w : World) :
    Calls Tryz.prog 51 #[.agg #[.int .i64 a.kind, .int .i64 a.sev, .string a.fn, .string a.file, .int .i64 a.line, .string a.expr]] w (Made 5 .u8 w (keyA a)) := by
  have q := Lib.hid (fun W => key_any a.kind hk a.fn a.expr (by have := h.1; omega) (by have := h.2.2; omega) W)
  have b0 := Lib.hid (box_below w #[.int .i64 a.kind, .int .i64 a.sev, .string a.fn, .string a.file, .int .i64 a.line, .string a.expr] 54)
  unfold keyA
  generalize keyL a.kind a.fn (normS (codes a.expr)) = K at *
  clear hk h
  obtain ⟨ak, asv, af, afi, al, ax⟩ := a
  dsimp only at q b0 ⊢
  go_enter Tryz.func51, Tryz.ntmps51
  go_wp2_with fail
  with_reducible refine (q.out _).mono ?_
  rintro e w1 h1
  have h1' := Lib.hid h1
  obtain ⟨v, rfl, -, -⟩ := h1
  go_wp2
  go_ret
  obtain ⟨v', e1, o1, bb⟩ := h1'.out
  exact ⟨v', e1, own_from o1 (fun q hq => Nat.le_trans b0.out.size ((o1.lt q hq).1)), b0.out.trans (bb.mono b0.out.size)⟩
theorem fof_any (k : List Int) (hb : Bs k) (hl : k.length ≤ 100000) (a : Option Addr) (c : Nat) (r : Int) (hr : (Lit.int .i64 r).wf = true) (B : Nat) (w : World) (hs : Sees .u8 B w a k) :
    Calls Tryz.prog 50 #[.slice a k.length c, .int .i64 r] w (Gives (.int .u64 (oneK k (max r 0).toNat)) w) := by
  have hr' := i64_wf hr
  have hm0 : 0 ≤ max r 0 := by omega
  have hm1 : U64 (max r 0) := by unfold U64; omega
  have h10 := hm1.le10
  have hwr : IntKind.u64.wrap (max r 0) = max r 0 := wrap_u64_in hm0 hm1.2
  have q1 := Lib.hid (sum_any a k k.length c rfl B w (by unfold maxLen; omega) hb hs)
  have q2 := Lib.hid (fun W => put_any (max r 0) W hm0 hm1)
  have q3 := Lib.hid (fun (A : Option Addr) (C : Nat) (W : World) (h : Sees .u8 W.heap.size W A (leb (max r 0).toNat)) => more_any (fsum fstart k) (fsum_in fstart_in k) A (leb (max r 0).toNat) (leb (max r 0).toNat).length C rfl _ W (by unfold maxLen; omega) (leb_bytes _) h)
  unfold oneK
  clear hs hb hl h10 hm1 hm0 hr'
  generalize leb (max r 0).toNat = L at *
  generalize fsum fstart k = s at *
  generalize fsum s L = R at *
  generalize k.length = n at *
  go_enter Tryz.func50, Tryz.ntmps50
  go_wp2_with fail
  with_reducible refine q1.out.mono ?_
  rintro e w1 ⟨rfl, rfl⟩
  clear q1
  go_wp2_with fail
  with_reducible refine (q2.out _).mono ?_
  rintro e w1 h1
  obtain ⟨a1, c1, rfl, s1, b1⟩ := h1.open _ rfl
  have b1' := Lib.hid b1
  clear h1 q2 b1
  go_wp2_with fail
  with_reducible refine (q3.out _ _ _ s1).mono ?_
  rintro e w2 ⟨rfl, rfl⟩
  clear q3 s1
  go_wp2
  go_ret
  exact ⟨rfl, b1'.out⟩
theorem fone_any (a : AlD) (hk : (Lit.int .i64 a.kind).wf = true) (h : smallA a) (r : Int) (hr : (Lit.int .i64 r).wf = true) (w : World) :
    Calls Tryz.prog 28 #[.agg #[.int .i64 a.kind, .int .i64 a.sev, .string a.fn, .string a.file, .int .i64 a.line, .string a.expr], .int .i64 r] w (Gives (.int .u64 (oneA a r)) w) := by
  have q := Lib.hid (fun W => fkey_any a hk h W)
  have q2 := Lib.hid (fun (A : Option Addr) (C : Nat) (W : World) (hs : Sees .u8 W.heap.size W A (keyA a)) => fof_any (keyA a) (keyA_bs a) (keyA_len a hk h) A C r hr _ W hs)
  have b0 := Lib.hid (box_below w #[.int .i64 a.kind, .int .i64 a.sev, .string a.fn, .string a.file, .int .i64 a.line, .string a.expr] 54)
  unfold oneA
  generalize keyA a = K at *
  clear hk h hr
  generalize oneK K (max r 0).toNat = R at *
  obtain ⟨ak, asv, af, afi, al, ax⟩ := a
  dsimp only at q b0 ⊢
  go_enter Tryz.func28, Tryz.ntmps28
  go_wp2_with fail
  with_reducible refine (q.out _).mono ?_
  rintro e w1 h1
  obtain ⟨a1, c1, rfl, s1, b1⟩ := h1.open _ rfl
  have b1' := Lib.hid (b0.out.trans (b1.mono b0.out.size))
  clear h1 q b1 b0
  go_wp2_with fail
  with_reducible refine (q2.out _ _ _ s1).mono ?_
  rintro e w2 ⟨rfl, b2⟩
  have b2' := Lib.hid (b1'.out.trans (b2.mono b1'.out.size))
  clear q2 s1 b2
  go_wp2
  go_ret
  exact ⟨rfl, b2'.out⟩
end Go.Proofs.YtpchncpcckfghaaGreat
namespace Go.Proofs.YtpchncpcckfghaaGreat
open Go.RowKit
set_option linter.unusedVariables false
set_option linter.unusedSimpArgs false
theorem nums_set (k : IntKind) (l : List Int) (i : Nat) (x : Int) : (nums k l).toArray.setIfInBounds i (.int k x) = (nums k (l.set i x)).toArray := by simp [nums]
theorem nums_getD {k : IntKind} {l : List Int} {i : Nat} (h : i < l.length) : (nums k l).toArray[i]? = some (.int k (l.getD i 0)) := by simp [nums, List.getD, h]
set_option maxRecDepth 100000 in
set_option maxHeartbeats 2000000 in
theorem fof1_any (Bo go n c i : Nat) (r : Nat) (k : List Int) (hbk : Bs k) (hkl : k.length ≤ 100000) (out : List Int) (W : World) (hbox : W.cell? ⟨Bo, 0, none⟩ = some (.slice (some ⟨go, 0, none⟩) n c)) (hBo : Bo < W.heap.size) (hne : Bo ≠ go) (hrow : Holds W go 36 (nums .u64 out).toArray) (hn : n = out.length) (hm : n ≤ 9223372036854775807) (hi : i < n) (hr : r ≤ 9223372036854775807) :
    Calls Tryz.prog 54 #[.int .i64 i, .int .i64 r, .string (strOfNums k), .pointer (some ⟨Bo, 0, none⟩)] W fun e w' => e = .returned (.tuple #[]) ∧ BelowE [go] W.heap.size W w' ∧ Holds w' go 36 (nums .u64 (out.set i (oneK k r))).toArray := by
  have yb : ∀ V, BelowE [go] W.heap.size W V → V.cell? ⟨Bo, 0, none⟩ = some (.slice (some ⟨go, 0, none⟩) n c) := fun V hV => (hV.cell (p := ⟨Bo, 0, none⟩) hBo (by simpa using hne)).trans hbox
  have q0 : Hid ((nums .u64 out).toArray[i]? = some (.int .u64 (out.getD i 0))) := Lib.hid (nums_getD (by omega))
  have hset : Hid (∀ x, (nums .u64 out).toArray.setIfInBounds i (.int .u64 x) = (nums .u64 (out.set i x)).toArray) := Lib.hid (fun x => nums_set .u64 out i x)
  have hii : (i : Int) < (n : Int) := by omega
  have hcv := Lib.hid (fun W : World => run_bytes_sees (P := Tryz.prog) W 9 82 5 (strOfNums k) Tryz.underlying9 Tryz.underlying82 Tryz.underlying5)
  have hsk : (strOfNums k).size = k.length := strOfNums_size _
  rw [codes_str hbk, hsk] at hcv
  clear hsk
  have qof := Lib.hid (fun (A : Option Addr) (C : Nat) (V : World) (hs : Sees .u8 V.heap.size V A k) => fof_any k hbk hkl A C (r : Int) (by simp [Lit.wf, IntKind.min, IntKind.max, IntKind.signed, IntKind.bits]; omega) _ V hs)
  have er : (max (r : Int) 0).toNat = r := by omega
  rw [er] at qof
  have hgo := hrow.lt
  have hall : Holds W.drew go 36 (nums .u64 out).toArray := hrow.drew
  have hsz : BelowE [go] W.heap.size W W.drew := (BelowE.refl _ _ _).drew
  clear hbox hrow hn hbk hkl hr er hne
  generalize oneK k r = V0 at *
  generalize strOfNums k = sk at *
  generalize (nums .u64 out).toArray = oc at *
  generalize out.getD i 0 = ov at *
  go_enter Tryz.func54, Tryz.ntmps54
  go_wp2
  refine wp_drawn_on (fun V => BelowE [go] W.heap.size W V) (by kernel_rfl) (hsz) (fun hHeld => ?_)
  generalize W.drew = vd at hsz hall hHeld ⊢
  refine wT 0 (v := ?v1) rfl (by kernel_rfl) (fun _ _ _ h => h) ?h1 (by assumption) ?r1
  case h1 => (intro w hSw; (try dsimp only at hSw); go_simp; try with_reducible rfl)
  refine wT 1 (v := ?v2) rfl (by kernel_rfl) (fun _ _ _ h => h) ?h2 (by assumption) ?r2
  case h2 => (intro w hSw; (try dsimp only at hSw); go_simp; try with_reducible rfl)
  refine wT 2 (v := ?v3) rfl (by kernel_rfl) (fun _ _ _ h => h) ?h3 (by assumption) ?r3
  case h3 => (intro w hSw; (try dsimp only at hSw); go_simp; try with_reducible rfl)
  refine wT 4 (v := ?v4) rfl (by kernel_rfl) (fun _ _ _ h => h) ?h4 (by assumption) ?r4
  case h4 => (intro w hSw; (try dsimp only at hSw); go_simp; try with_reducible rfl)
  try simp only [Act.put, List.setIfInBounds_toArray, List.set_cons_zero, List.set_cons_succ]
  refine wpAnyH_ready (rs := [3]) (by kernel_rfl) (by simp) ?_
  refine AllReadyH.cons (o := ⟨_, _, _, _, _, _⟩) rfl (fun K hK => ?_) AllReadyH.nil
  obtain ⟨c3, w3, hrun3, -, hs3, hb3, -⟩ := hcv.out vd
  go_simp
  clear hrun3
  refine hK.out _ _ (hHeld.trans (.of (hb3.mono hHeld.size))) (fun hHeld => ?_)
  clear hK K
  try simp only [Act.put, List.setIfInBounds_toArray, List.set_cons_zero, List.set_cons_succ]
  refine wpAnyH_ready (rs := [5]) (by kernel_rfl) (by simp) ?_
  refine AllReadyH.cons (o := ⟨_, _, _, _, _, _⟩) rfl (fun K hK => ?_) AllReadyH.nil
  go_simp
  with_reducible refine (qof.out _ _ _ hs3).mono ?_
  rintro e w5 ⟨rfl, b5⟩
  go_simp
  refine hK.out _ _ (hHeld.trans (.of (b5.mono hHeld.size))) (fun hHeld => ?_)
  clear hK K
  refine wT 6 (v := ?v5) rfl (by kernel_rfl) (fun _ _ _ h => h) ?h5 (by assumption) ?r5
  case h5 => (intro w hSw; (try dsimp only at hSw); go_simp; try with_reducible rfl)
  try simp only [Act.put, List.setIfInBounds_toArray, List.set_cons_zero, List.set_cons_succ]
  refine wpAnyH_ready (rs := [7]) (by kernel_rfl) (by simp) ?_
  refine AllReadyH.cons (o := ⟨_, _, _, _, _, _⟩) rfl (fun K hK => ?_) AllReadyH.nil
  have hz := (hall.below hb3 hall.lt).below b5 (hall.below hb3 hall.lt).lt
  have z0 := (hz.cell i).trans q0.out
  have z1 := hz.free i
  go_simp
  clear z0 z1
  refine hK.out _ _ (hHeld.setIn (p := ⟨go, i, none⟩) (by simp) _) (fun hHeld => ?_)
  clear hK K
  try simp only [Act.put, List.setIfInBounds_toArray, List.set_cons_zero, List.set_cons_succ]
  refine wpAnyH_done (by kernel_rfl) ?_ _
  have hf := Lib.hid hHeld
  have hs := hz.set i (.int .u64 V0)
  rw [hset.out] at hs
  have hs' := Lib.hid hs
  clear hHeld hz hs hb3 b5 hs3 hall yb
  go_wp2
  go_end0
  exact ⟨rfl, hf.out, hs'.out⟩
end Go.Proofs.YtpchncpcckfghaaGreat
namespace Go.Proofs.YtpchncpcckfghaaGreat
open Go.RowKit Go.WideMaps Go.Maps
set_option linter.unusedVariables false
theorem msi_law : Keyed Tryz.prog 9 := string_keyed Tryz.underlying9
theorem msi_zero (w : World) : (zeroValue 3).run Tryz.prog w = .ok (.int .i64 0) w := by kernel_rfl
def CntM (w : World) (M n : Nat) (cnt : ByteArray → Nat) : Prop :=
  ∃ D : DataW Unit, w.ownsMap Tryz.prog 9 (plainElem Tryz.prog 3) M n D ∧ ∀ s : ByteArray, s.size ≤ maxLen → D.atKey (.string s.data.toList) (.lit (.int .i64 0)) = .lit (.int .i64 (cnt s : Int))
theorem CntM.keep {w w' : World} {M n : Nat} {cnt : ByteArray → Nat} (h : CntM w M n cnt) (hb : w'.heap[M]? = w.heap[M]?) : CntM w' M n cnt := by
  obtain ⟨D, ⟨es, clock, h1, h2⟩, h3⟩ := h
  exact ⟨D, ⟨es, clock, hb.trans h1, h2⟩, h3⟩
theorem CntM.lt {w : World} {M n : Nat} {cnt : ByteArray → Nat} (h : CntM w M n cnt) : M < w.heap.size := by
  obtain ⟨D, h1, _⟩ := h
  exact h1.lt
theorem CntM.belowE {w w' : World} {M n : Nat} {cnt : ByteArray → Nat} {X : List Nat} (h : CntM w M n cnt) (hb : BelowE X w.heap.size w w') (hX : M ∉ X) : CntM w' M n cnt := h.keep (hb.block M h.lt hX)
theorem CntM.below {w w' : World} {M n : Nat} {cnt : ByteArray → Nat} (h : CntM w M n cnt) (hb : Below w.heap.size w w') : CntM w' M n cnt := h.keep (hb.block M h.lt)
theorem CntM.new (w : World) : CntM (w.alloc (.map #[] 0)) w.heap.size 0 (fun _ => 0) := ⟨_, World.ownsMap_made w _ _ _, fun s _ => rfl⟩
theorem CntM.look {w : World} {M n : Nat} {cnt : ByteArray → Nat} (h : CntM w M n cnt) (s : ByteArray) (hs : s.size ≤ maxLen) : (Instr.lookup 107 (.map (some M)) (.string s) false).run Tryz.prog w = .ok (.int .i64 (cnt s : Int)) w := by
  obtain ⟨D, h1, h2⟩ := h
  obtain ⟨c, hrun, hat, _⟩ := h1.lookup_int msi_law Tryz.underlying107 Tryz.underlying3 (msi_zero _) (keyOf_string_mk Tryz.underlying9 hs)
  rw [h2 s hs] at hat
  simp only [DataW.lit.injEq, Lit.int.injEq, true_and] at hat
  rw [hat]
  exact hrun
theorem data_inj {s t : ByteArray} (h : s.data.toList = t.data.toList) : s = t := ByteArray.ext (Array.ext' h)
theorem CntM.add {w : World} {M n : Nat} {cnt : ByteArray → Nat} (h : CntM w M n cnt) (s : ByteArray) (hs : s.size ≤ maxLen) (hn : n < maxLen) (hc : (cnt s : Int) < 9223372036854775807) :
    ∃ w', (Instr.mapUpdate 107 (.map (some M)) (.string s) (.int .i64 ((cnt s : Int) + 1))).run Tryz.prog w = .ok () w' ∧ CntM w' M (n + 1) (fun x => if x = s then cnt s + 1 else cnt x) ∧ BelowE [M] w.heap.size w w' := by
  obtain ⟨D, h1, h2⟩ := h
  have hD := h1.isMap
  obtain ⟨w', hrun, hown, hg⟩ := h1.update (key := .string s) (val := .int .i64 ((cnt s : Int) + 1)) (ps := []) msi_law Tryz.underlying107 hn (keyOf_string_mk Tryz.underlying9 hs) (plainElem_int (q := .i64) (a := (cnt s : Int) + 1) Tryz.underlying3 (by simp [Lit.wf, IntKind.min, IntKind.max, IntKind.signed, IntKind.bits]; omega))
  refine ⟨w', hrun, ⟨_, hown, fun t ht => ?_⟩, ⟨hg.os, hg.tape, hg.output, hg.size, fun k hk hx => hg.block k hk (by intro e; injection e with e; exact hx (by simp [e]))⟩⟩
  show _ = DataW.lit (.int .i64 ((if t = s then cnt s + 1 else cnt t : Nat) : Int))
  by_cases e : t = s
  · subst e
    rw [if_pos rfl, atKey_put_same hD (by exact trivial)]
    rfl
  · rw [if_neg e, atKey_put_other (by intro h; injection h with h; exact e (data_inj h)), h2 t ht]
end Go.Proofs.YtpchncpcckfghaaGreat
namespace Go.Proofs.YtpchncpcckfghaaGreat
set_option linter.unusedVariables false
set_option linter.unusedSimpArgs false
def upF (n k : Nat) : List Int := (List.range n).map fun i => if i < k then (i : Int) else 0
theorem upF_len (n k : Nat) : (upF n k).length = n := by simp [upF]
theorem upF_zero (n : Nat) : upF n 0 = List.replicate n 0 := by
  apply List.ext_getElem
  · simp [upF]
  · intro i a b; simp [upF]
theorem upF_set (n k : Nat) : (upF n k).set k (k : Int) = upF n (k + 1) := by
  apply List.ext_getElem
  · simp [upF]
  · intro i a b
    rw [List.getElem_set]
    simp only [upF, List.getElem_map, List.getElem_range]
    by_cases e : k = i
    · subst e; simp
    · rw [if_neg e]
      by_cases h : i < k
      · rw [if_pos h, if_pos (by omega)]
      · rw [if_neg h, if_neg (by omega)]
theorem upF_at {n j : Nat} (h : j < n) : (upF n n).getD j 0 = (j : Int) := by simp [upF, List.getD, h]
def outF (V : Nat → Int) (S : List Nat) (n t : Nat) : List Int := (List.range n).map fun i => if i ∈ S.take t then V i else 0
theorem outF_len (V : Nat → Int) (S : List Nat) (n t : Nat) : (outF V S n t).length = n := by simp [outF]
theorem outF_zero (V : Nat → Int) (S : List Nat) (n : Nat) : outF V S n 0 = List.replicate n 0 := by
  apply List.ext_getElem
  · simp [outF]
  · intro i a b; simp [outF]
theorem outF_set (V : Nat → Int) (S : List Nat) (n t : Nat) (ht : t < S.length) : (outF V S n t).set (S.getD t 0) (V (S.getD t 0)) = outF V S n (t + 1) := by
  have e : S.take (t + 1) = S.take t ++ [S.getD t 0] := by rw [List.take_add_one]; simp [List.getD, ht]
  apply List.ext_getElem
  · simp [outF]
  · intro i a b
    rw [List.getElem_set]
    simp only [outF, List.getElem_map, List.getElem_range, e, List.mem_append, List.mem_singleton]
    by_cases h : S.getD t 0 = i
    · rw [if_pos h, if_pos (.inr h.symm), h]
    · rw [if_neg h]
      by_cases h2 : i ∈ S.take t
      · rw [if_pos h2, if_pos (.inl h2)]
      · rw [if_neg h2, if_neg (by rintro (h3 | h3); exact h2 h3; exact h h3.symm)]
theorem outF_all (V : Nat → Int) (S : List Nat) (n : Nat) (hl : S.length ≤ n) (h : ∀ i, i < n → i ∈ S) : outF V S n n = (List.range n).map V := by
  unfold outF
  apply List.map_congr_left
  intro i hi
  rw [List.take_of_length_le hl, if_pos (h i (by simpa using hi))]
def cntF (l : List AlD) (S : List Nat) (t : Nat) (s : ByteArray) : Nat := (S.take t).countP fun j => decide (strOfNums (keyA (l.getD j al0)) = s)
theorem cntF_zero (l : List AlD) (S : List Nat) : cntF l S 0 = fun _ => 0 := by funext s; simp [cntF]
theorem cntF_step (l : List AlD) (S : List Nat) (t : Nat) (ht : t < S.length) : (fun x => if x = strOfNums (keyA (l.getD (S.getD t 0) al0)) then cntF l S t (strOfNums (keyA (l.getD (S.getD t 0) al0))) + 1 else cntF l S t x) = cntF l S (t + 1) := by
  have e : S.take (t + 1) = S.take t ++ [S.getD t 0] := by rw [List.take_add_one]; simp [List.getD, ht]
  funext x
  unfold cntF
  rw [e, List.countP_append]
  by_cases h : x = strOfNums (keyA (l.getD (S.getD t 0) al0))
  · rw [if_pos h, ← h]
    rw [List.countP_cons, List.countP_nil, decide_eq_true h.symm]
    simp
  · rw [if_neg h, List.countP_cons, List.countP_nil, decide_eq_false (fun h2 => h h2.symm)]
    simp
theorem keyA_bs0 (a : AlD) : Bs (keyA a) := by
  unfold keyA keyL
  intro c hc
  simp only [List.mem_append] at hc
  rcases hc with hc | (hc | hc) | hc | hc
  · exact leb_bytes _ c hc
  · exact leb_bytes _ c hc
  · exact codes_bs a.fn c hc
  · exact leb_bytes _ c hc
  · exact normS_bs (codes_bs _) c hc
theorem cntF_rank (l : List AlD) {t : Nat} (ht : t < l.length) : cntF l (placesF l al0 l.length) t (strOfNums (keyA (l.getD ((placesF l al0 l.length).getD t 0) al0))) = rankA l ((placesF l al0 l.length).getD t 0) := by
  unfold rankA
  rw [places_rank keyA l al0 ht]
  unfold cntF
  apply List.countP_congr
  intro j _
  simp only [decide_eq_true_eq]
  exact ⟨fun h => strOfNums_inj (keyA_bs0 _) (keyA_bs0 _) h, fun h => by rw [h]⟩
end Go.Proofs.YtpchncpcckfghaaGreat
