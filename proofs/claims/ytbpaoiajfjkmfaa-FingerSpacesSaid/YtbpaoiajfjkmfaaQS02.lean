/-
  Words and walks under the law's proof.
-/
import Derived.Test.YtbpaoiajfjkmfaaRows
import Derived.Deep.RegionHeld3
import Derived.Deep.DrawnRows
import Derived.Laws.Bits64b
import Derived.Laws.BitsAllLaws
import Derived.WalkSpells
import Derived.Lib.BufferMore
import Derived.Deep.Slices
import Derived.Deep.Fields
import Derived.ChangeSame
import Derived.SizedLaws
import Derived.IntWalk
import Derived.Test.YtbpaoiajfjkmfaaQS01
namespace Go.Proofs.Ytbpaoiajfjkmfaa
open Go.RowKit
set_option linter.unusedVariables false
set_option linter.unusedSimpArgs false
def Bld (B b : Nat) (l : List Int) (w : World) : Prop := Lib.IsBuilderF 82 5 B b (nums .u8 l) w
def BldW (v : Value) (B b : Nat) (l : List Int) (w : World) (e : Ending) (w' : World) : Prop := e = .returned v ∧ Bld B b l w' ∧ Below B w w' ∧ Lib.OthersKept 5 (some b) w w'
theorem infoBld : (Try.prog.info? 82).map (fun i => i.size) = some 2 := by kernel_rfl
theorem infoB8 : (Try.prog.info? 5).map (fun i => (i.zero, i.size, i.bytes)) = some (some (.int .u8 0), 1, 1) := by kernel_rfl
theorem bld_new (w : World) (B : Nat) (hB : B ≤ w.heap.size) : Bld B w.heap.size [] (w.alloc (.cells #[.pointer none, .slice none 0 0] 82)) :=
  .inl ⟨hB, .slice none 0 0, heap_alloc_new w _, ⟨rfl, .inl ⟨rfl, rfl⟩⟩, by simp [Value.ownBlock]⟩
theorem Bld.lt {B b : Nat} {l : List Int} {w : World} (h : Bld B b l w) : b < w.heap.size := by
  rcases h with h | h <;> exact h.lt
theorem bld_own_kept {w w' : World} {e : TypeId} {B : Nat} {v : Value} {n : Nat} {xs : List Value} (h : w.ownsRowF B e 1 v n xs) (hk : Below w.heap.size w w') : w'.ownsRowF B e 1 v n xs :=
  ⟨h.1, h.2.elim .inl fun ⟨g, cap, cur, fz, hv, hg, hh, r⟩ => .inr ⟨g, cap, cur, fz, hv, hg, (hk.block g (Array.getElem?_eq_some_iff.1 hh).1).trans hh, r⟩⟩
theorem Bld.below {B b : Nat} {l : List Int} {w w' : World} (h : Bld B b l w) (hk : Below w.heap.size w w') : Bld B b l w' := by
  have hlt := h.lt
  rcases h with ⟨hB, v, hb, hown, hne⟩ | ⟨hB, v, hb, hown, hne⟩
  · exact .inl ⟨hB, v, (hk.block b hlt).trans hb, bld_own_kept hown hk, hne⟩
  · exact .inr ⟨hB, v, (hk.block b hlt).trans hb, bld_own_kept hown hk, hne⟩
set_option maxHeartbeats 1000000 in
set_option maxRecDepth 100000 in
theorem check_used (b : Nat) (w : World) (h0 : w.cell? ⟨b, 0, none⟩ = some (.pointer (some ⟨b, 0, none⟩))) :
    Calls Try.prog 82 #[.pointer (some ⟨b, 0, none⟩)] w fun e w' => e = .returned (.tuple #[]) ∧ w' = w := by
  obtain ⟨j, hj, _⟩ := Option.map_eq_some_iff.1 infoBld
  go_enter Try.func82, Try.ntmps82
  go_wp2
  rw [Lib.run_neq_ptr_same w _ Try.underlying80 hj]
  go_wp2
  go_end0
  exact ⟨rfl, rfl⟩
set_option maxHeartbeats 1000000 in
set_option maxRecDepth 100000 in
theorem check_fresh (b : Nat) (w : World) (h0 : w.cell? ⟨b, 0, none⟩ = some (.pointer none)) (hsh : w.shape? b = some (82, 2)) (hfz : w.frozen? ⟨b, 0, none⟩ = false) :
    Calls Try.prog 82 #[.pointer (some ⟨b, 0, none⟩)] w fun e w' => e = .returned (.tuple #[]) ∧ w' = w.setCell ⟨b, 0, none⟩ (.pointer (some ⟨b, 0, none⟩)) := by
  obtain ⟨j, hj, hjs⟩ := Option.map_eq_some_iff.1 infoBld
  go_enter Try.func82, Try.ntmps82
  go_wp2
  rw [Lib.run_to_unsafe w ⟨b, 0, none⟩ Try.underlying80 Try.underlying107 hj (by rw [hjs]; decide) hsh (Nat.zero_lt_succ 1)]
  simp only [Result.andThen]
  rw [Oper.upon_value]
  go_wp2
  rw [run_callFunc_extern Try.func89 (by kernel_rfl) (by kernel_rfl) (by kernel_rfl) (e := Extern.AbiNoEscape.same) (by kernel_rfl)]
  rw [Lib.run_noEscape]
  simp only [Result.andThen]
  rw [Oper.upon_value]
  go_wp2
  rw [Lib.run_from_unsafe w ⟨b, 0, none⟩ Try.underlying107 Try.underlying80 hj hsh (by kernel_rfl)]
  simp only [Result.andThen]
  rw [Oper.upon_value]
  go_wp2
  go_end0
  exact ⟨rfl, rfl⟩
theorem check_any (B b : Nat) (l : List Int) (w : World) (h : Bld B b l w) :
    Calls Try.prog 82 #[.pointer (some ⟨b, 0, none⟩)] w fun e w' => e = .returned (.tuple #[]) ∧ Lib.BuilderAtF 82 5 B b (.pointer (some ⟨b, 0, none⟩)) (nums .u8 l) w' ∧ Below B w w' ∧ Lib.OthersKept 5 (some b) w w' := by
  rcases h with h | h
  · refine (check_fresh b w h.cell0 h.shape h.frozen0).mono ?_
    rintro e w' ⟨rfl, rfl⟩
    exact ⟨rfl, h.used _, (Below.refl B w).setCell (p := ⟨b, 0, none⟩) h.1 _, (Lib.OthersKept.refl _ _ w).setCell ⟨b, 0, none⟩ rfl _⟩
  · refine (check_used b w h.cell0).mono ?_
    rintro e w' ⟨rfl, rfl⟩
    exact ⟨rfl, h, Below.refl B _, Lib.OthersKept.refl _ _ _⟩
theorem hold_slice {w : World} {B : Nat} {v : Value} {n : Nat} {xs : List Value} (h : w.ownsRowF B 5 1 v n xs) : ∃ a m c, v = .slice a m c := by
  rcases h.2 with ⟨hv, _⟩ | ⟨g, cap, cur, fz, hv, _⟩
  · exact ⟨_, _, _, hv⟩
  · exact ⟨_, _, _, hv⟩
set_option maxHeartbeats 2000000 in
set_option maxRecDepth 100000 in
theorem wbyte_any (B b : Nat) (l : List Int) (c : Int) (w : World) (h : Bld B b l w) (hlen : l.length + 1 ≤ 140737488355328) (hBw : B ≤ w.heap.size) :
    Calls Try.prog 61 #[.pointer (some ⟨b, 0, none⟩), .int .u8 c] w (BldW .nilIface B b (l ++ [c]) w) := by
  obtain ⟨i0, hi, hz0, hz1, hz2⟩ := info_parts infoB8
  have hck := Lib.hid (check_any B b l w h)
  clear h
  go_enter Try.func61, Try.ntmps61
  go_wp2_with fail
  refine hck.out.mono ?_
  rintro e w1 ⟨rfl, h1, hb1, hk1⟩
  obtain ⟨hB, v, hbk, hown, hne⟩ := h1
  have c0 : w1.cell? ⟨b, 0, none⟩ = some (.pointer (some ⟨b, 0, none⟩)) := by rw [Lib.cell_of_heap hbk]; rfl
  have c1 : w1.cell? ⟨b, 1, none⟩ = some v := by rw [Lib.cell_of_heap hbk]; rfl
  have hnl : (nums .u8 l).length = l.length := by simp [nums]
  go_wp2_with (at_builtin; refine wpList_append_ownF _ rfl _ _ 46 rfl B 5 i0 (.int .u8 0) 1 1 Try.underlying46 hi hz0 hz1 hz2 rfl (by decide) _ _ _ rfl (hown.alloc _) ⟨w1.heap.size, 0, none⟩ 1 1 [.int .u8 c] rfl rfl ?c1 ?c2 ?c3 ?c4 ?c5 ?_)
  case c1 =>
    intro j u hj
    match j, hj with
    | 0, hj => simp at hj; subst hj; simp [Addr.add]
  case c2 => intro u hu; simp at hu; subst hu; rfl
  case c3 => unfold maxLen; omega
  case c4 => omega
  case c5 => have := hb1.size; simp; omega
  intro v' w2 hown' hgrow _
  have hlt : b < w1.heap.size := (Array.getElem?_eq_some_iff.1 hbk).1
  have hb2 : w2.heap[b]? = some (.cells #[.pointer (some ⟨b, 0, none⟩), v] 82 (0, 0)) := by
    rw [hgrow.block b (by simp; omega) (fun e => hne e.symm), Lib.alloc_old w1 _ b hlt]
    exact hbk
  have d0 : w2.cell? ⟨b, 0, none⟩ = some (.pointer (some ⟨b, 0, none⟩)) := by rw [Lib.cell_of_heap hb2]; rfl
  have d1 : w2.cell? ⟨b, 1, none⟩ = some v := by rw [Lib.cell_of_heap hb2]; rfl
  have f1 : w2.frozen? ⟨b, 1, none⟩ = false := Lib.frozen_of_heap hb2 1
  obtain ⟨ao, n', cap, rfl⟩ := hold_slice hown'
  go_wp2
  go_ret
  refine ⟨rfl, .inr ?_, ?_, ((hk1.alloc _).grown hgrow (Lib.ownsRowF_kind (hown.alloc _))).setCell ⟨b, 1, none⟩ rfl _⟩
  · rw [nums_snoc]
    exact Lib.BuilderAtF.put hB hb2 (by simpa [hnl] using hown') (by decide)
  · exact ((hb1.alloc (by have := hb1.size; omega) _).grown hgrow (by have := hb1.size; simp; omega) (fun k hk => (hown.lt k hk).1)).setCell (p := ⟨b, 1, none⟩) hB _
set_option maxHeartbeats 2000000 in
set_option maxRecDepth 100000 in
theorem wstr_any (B b : Nat) (l : List Int) (s : ByteArray) (w : World) (h : Bld B b l w) (hlen : l.length + s.size ≤ 140737488355328) (hBw : B ≤ w.heap.size) :
    Calls Try.prog 62 #[.pointer (some ⟨b, 0, none⟩), .string s] w (BldW (.tuple #[.int .i64 s.size, .nilIface]) B b (l ++ codes s) w) := by
  obtain ⟨i0, hi, hz0, hz1, hz2⟩ := info_parts infoB8
  have hck := Lib.hid (check_any B b l w h)
  clear h
  go_enter Try.func62, Try.ntmps62
  go_wp2_with fail
  refine hck.out.mono ?_
  rintro e w1 ⟨rfl, h1, hb1, hk1⟩
  obtain ⟨hB, v, hbk, hown, hne⟩ := h1
  have c0 : w1.cell? ⟨b, 0, none⟩ = some (.pointer (some ⟨b, 0, none⟩)) := by rw [Lib.cell_of_heap hbk]; rfl
  have c1 : w1.cell? ⟨b, 1, none⟩ = some v := by rw [Lib.cell_of_heap hbk]; rfl
  have hnl : (nums .u8 l).length = l.length := by simp [nums]
  go_wp2_with (at_builtin; refine Lib.wpList_append_own_stringF _ rfl _ _ 46 9 rfl B 5 i0 Try.underlying46 Try.underlying9 hi hz0 hz1 hz2 _ _ _ rfl hown s rfl ?c3 ?c4 ?c5 ?_)
  case c3 => unfold maxLen; omega
  case c4 => omega
  case c5 => have := hb1.size; omega
  intro v' w2 hown' hgrow _
  have hlt : b < w1.heap.size := (Array.getElem?_eq_some_iff.1 hbk).1
  have hb2 : w2.heap[b]? = some (.cells #[.pointer (some ⟨b, 0, none⟩), v] 82 (0, 0)) := by
    rw [hgrow.block b hlt (fun e => hne e.symm)]
    exact hbk
  have d0 : w2.cell? ⟨b, 0, none⟩ = some (.pointer (some ⟨b, 0, none⟩)) := by rw [Lib.cell_of_heap hb2]; rfl
  have d1 : w2.cell? ⟨b, 1, none⟩ = some v := by rw [Lib.cell_of_heap hb2]; rfl
  have f1 : w2.frozen? ⟨b, 1, none⟩ = false := Lib.frozen_of_heap hb2 1
  obtain ⟨ao, n', cap, rfl⟩ := hold_slice hown'
  go_wp2
  go_ret2
  refine ⟨rfl, .inr ?_, ?_, (hk1.grown hgrow (Lib.ownsRowF_kind hown)).setCell ⟨b, 1, none⟩ rfl _⟩
  · have e1 : nums .u8 (l ++ codes s) = nums .u8 l ++ Lib.strCells s := by simp [nums, codes, Lib.strCells]
    rw [e1]
    exact Lib.BuilderAtF.put hB hb2 (by simpa [Lib.strCells_length, hnl] using hown') (by decide)
  · exact (hb1.grown hgrow (by have := hb1.size; omega) (fun k hk => (hown.lt k hk).1)).setCell (p := ⟨b, 1, none⟩) hB _
theorem bytes_nums {l : List Int} (h : Bs l) : nums .u8 l = Lib.byteCells (strOfNums l).data.toList := by
  rw [strOfNums_data]
  simp only [nums, Lib.byteCells, List.map_map]
  apply List.map_congr_left
  intro x hx
  have := h x hx
  simp only [Function.comp, UInt8.toNat_ofNat']
  congr 1
  omega
theorem bstr_any (B b : Nat) (l : List Int) (w : World) (h : Bld B b l w) (hl : Bs l) (hBw : B ≤ w.heap.size) :
    Calls Try.prog 63 #[.pointer (some ⟨b, 0, none⟩)] w (BldW (.string (strOfNums l)) B b l w) := by
  unfold Bld at h
  rw [bytes_nums hl] at h
  refine (Try.Builder_String_any_k B b _ w h hBw).mono ?_
  rintro e w' ⟨rfl, h1, h2, h3⟩
  refine ⟨rfl, ?_, h2, h3⟩
  unfold Bld
  rw [bytes_nums hl]
  exact h1
end Go.Proofs.Ytbpaoiajfjkmfaa
namespace Go.Proofs.Ytbpaoiajfjkmfaa
open Go.RowKit
set_option linter.unusedVariables false
set_option linter.unusedSimpArgs false
theorem row_kept {w w' : World} {base b : Nat} {v : Value} {n : Nat} {xs : List Value} (h : w.ownsRow base 9 1 v n xs) (hb : v.ownBlock ≠ some b) (hk : Lib.OthersKept 5 (some b) w w') : w'.ownsRow base 9 1 v n xs := by
  refine ⟨h.1, ?_⟩
  rcases h.2 with h | ⟨g, cap, cur, hv, hg, hh, r⟩
  · exact .inl h
  · exact .inr ⟨g, cap, cur, hv, hg, hk g _ hh (by rw [hv] at hb; exact hb) (by intro c fz e; simp at e), r⟩
theorem head_at {p : List Int} (h : p ≠ []) : p.getD 0 0 = p.headD 0 := by cases p <;> simp at h ⊢
theorem norm_step {ps : List (List Int)} {k : Nat} (hk : k < ps.length) (last : Bool) : normL last (ps.drop k) = (if last && hw (ps.getD k []) then [32] else []) ++ ((ps.getD k []) ++ normL (hw (ps.getD k [])) (ps.drop (k + 1))) := by
  rw [List.drop_eq_getElem_cons hk]
  simp [normL, List.getD, hk]
set_option maxHeartbeats 2000000 in
set_option maxRecDepth 100000 in
theorem norm_any (s : ByteArray) (hs : s.size ≤ 100000) (w : World) : Calls Try.prog 50 #[.string s] w (Gives (.string (strOfNums (normS (codes s)))) w) := by
  have hlen := normS_len (codes s)
  rw [codes_length] at hlen
  have hpl : ∀ W, Calls Try.prog 59 #[.string s] W (GivesT (partsL (codes s)) W) := fun W => parts_any s hs W
  have hgood := parts_good _ (Nat.le_refl (codes s).length)
  have hbsAll := parts_bs _ (Nat.le_refl (codes s).length) (codes_bs s)
  have htot : Hid (normL false (partsL (codes s)) = normS (codes s)) := Lib.hid rfl
  have hT : Hid ((normS (codes s)).length ≤ 100000) := Lib.hid (by omega)
  have hTb : Hid (Bs (normS (codes s))) := Lib.hid (norm_bs hbsAll false)
  have hgood' := Lib.hid hgood
  have hbs' := Lib.hid hbsAll
  have hpl' := Lib.hid hpl
  have hnum : Hid ((partsL (codes s)).length ≤ 100000) := Lib.hid (by
    have h : ∀ (ps : List (List Int)) (last : Bool), (∀ p ∈ ps, Good p) → ps.length ≤ (normL last ps).length := by
      intro ps
      induction ps with
      | nil => intro _ _; simp
      | cons p r ih =>
        intro last hg
        have h1 := ih (hw p) (fun x hx => hg x (by simp [hx]))
        have h2 : 0 < p.length := List.length_pos_iff.2 (hg p (by simp)).ne
        simp only [normL, List.length_append, List.length_cons]; omega
    have := h _ false hgood
    unfold normS at hlen; omega)
  clear hlen hpl hgood hbsAll hs
  generalize partsL (codes s) = ps at *
  generalize normS (codes s) = T at *
  go_enter Try.func50, Try.ntmps50
  go_wp2_with fail
  refine (hpl'.out _).mono ?_
  rintro e W1 ⟨v, rfl, hrow, hB1⟩
  obtain ⟨a, c, rfl, -, -⟩ := sees_ownT hrow.1
  have hne : Hid ((Value.slice a (ps.map strOfNums).length c).ownBlock ≠ some w.heap.size) := Lib.hid (by
    intro e
    have := hrow.2 _ e
    simp at this; omega)
  have hown0 := hrow.1
  have hbld0 : Hid (Bld w.heap.size w.heap.size [] W1) := Lib.hid ((bld_new w w.heap.size (Nat.le_refl _)).below hB1)
  have hB0 : Hid (Below w.heap.size w W1) := Lib.hid (((Below.refl _ _).alloc (Nat.le_refl _) _).trans (hB1.mono (by simp)))
  have hown0' := Lib.hid hown0
  clear hrow hown0 hB1
  go_wp2
  go_loopw [4, 11] (fun word i wr => ∃ (k : Nat) (acc : List Int) (last : Bool), k ≤ ps.length ∧ i = .int .i64 k ∧ word = .bool last ∧ Hid (acc ++ normL last (ps.drop k) = T) ∧ Hid (Bld w.heap.size w.heap.size acc wr) ∧ Hid (wr.ownsRow 0 9 1 (.slice a (ps.map strOfNums).length c) (ps.map strOfNums).length (txts (ps.map strOfNums))) ∧ Hid (Below w.heap.size w wr)) (fun _ i _ => ps.length - (intOf i).toNat)
  case atStart => exact ⟨0, [], false, by omega, rfl, rfl, Lib.hid (by simpa using htot.out), hbld0, hown0', hB0⟩
  case round =>
    obtain ⟨k, acc, last, hk, rfl, rfl, htt, hbld, hown, hB⟩ := hrel
    have hkb := hnum.out
    by_cases hlt : k < ps.length
    · have hlt' : 0 < (ps.map strOfNums).length := by simp; omega
      obtain ⟨a', c', hv, -, hs⟩ := sees_ownT hown.out
      have ea : a = a' := by injection hv
      subst ea
      clear hv
      rcases hs with h | ⟨b1, o1, rfl, -, g1⟩
      · rw [h] at hlt'; simp at hlt'
      have e1 := g1 k (by simpa using hlt)
      rw [show (ps.map strOfNums).getD k ⟨#[]⟩ = strOfNums (ps.getD k []) by simp [List.getD, hlt]] at e1
      clear g1
      have hgk := hgood'.out (ps.getD k []) (by simp [List.getD, hlt])
      have hbk := hbs'.out (ps.getD k []) (by simp [List.getD, hlt])
      have hst := Lib.hid (norm_step hlt last)
      have hpl : 0 < (ps.getD k []).length := List.length_pos_iff.2 hgk.ne
      have hz : ∀ W, (Instr.index 9 (.string (strOfNums (ps.getD k []))) (.int .i64 0)).run Try.prog W = .ok (.int .u8 ((ps.getD k []).headD 0)) W := fun W => by
        have := ix (strOfNums (ps.getD k [])) 0 (by rw [← codes_length, codes_str hbk]; exact hpl) W
        rw [codes_str hbk, head_at hgk.ne] at this
        exact this
      have hc0 := hbk.at hpl
      rw [head_at hgk.ne] at hc0
      have hcall := Lib.hid (fun W => wordByte_any ((ps.getD k []).headD 0) hc0.1 hc0.2 W)
      rw [show wdB ((ps.getD k []).headD 0) = hw (ps.getD k []) from rfl] at hcall
      have hsz : Hid ((strOfNums (ps.getD k [])).size = (ps.getD k []).length) := Lib.hid (by rw [← codes_length, codes_str hbk])
      have hcd : Hid (codes (strOfNums (ps.getD k [])) = ps.getD k []) := Lib.hid (codes_str hbk)
      clear hgk hbk hpl hc0
      generalize (ps.getD k []).headD 0 = c0 at *
      generalize ps.getD k [] = p at *
      generalize hw p = isw at *
      have hL : Hid ((acc ++ normL last (ps.drop k)).length ≤ 100000) := Lib.hid (by rw [htt.out]; exact hT.out)
      go_wp2_with fail
      refine (hcall.out _).mono ?_
      rintro e w' ⟨rfl, rfl⟩
      by_cases hsep : (last && isw) = true
      · obtain ⟨rfl, rfl⟩ : last = true ∧ isw = true := by cases last <;> cases isw <;> simp_all
        have hwb := Lib.hid (wbyte_any w.heap.size w.heap.size acc 32 wr hbld.out (by have := hL.out; simp at this; omega) hB.out.size)
        clear hsep
        go_wp2_with fail
        refine hwb.out.mono ?_
        rintro e W2 ⟨rfl, hbld2, hB2, hk2⟩
        have hws := Lib.hid (wstr_any w.heap.size w.heap.size (acc ++ [32]) (strOfNums p) W2 hbld2 (by have := hL.out; rw [hst.out] at this; rw [hsz.out]; simp at this ⊢; omega) (by have := hB.out.size; have := hB2.size; omega))
        clear hbld2 hwb
        go_wp2_with fail
        refine hws.out.mono ?_
        rintro e W3 ⟨rfl, hbld3, hB3, hk3⟩
        rw [hcd.out] at hbld3
        have hbld3' := Lib.hid hbld3
        have hown3 := Lib.hid (row_kept (row_kept hown.out hne.out hk2) hne.out hk3)
        have hB3' := Lib.hid ((hB.out.trans hB2).trans hB3)
        have htt3 : Hid ((acc ++ [32] ++ p) ++ normL true (ps.drop (k + 1)) = T) := Lib.hid (by rw [← htt.out, hst.out]; simp)
        clear hbld3 hws hB2 hk2 hB3 hk3 hbld hown hB htt hst hL
        go_wp2
        go_roundw
        case rel => exact ⟨k + 1, _, true, by omega, by go_num, rfl, htt3, hbld3', hown3, hB3'⟩
        case measure => simp [intOf]; omega
      · have hws := Lib.hid (wstr_any w.heap.size w.heap.size acc (strOfNums p) wr hbld.out (by have := hL.out; rw [hst.out] at this; rw [hsz.out]; simp at this ⊢; omega) hB.out.size)
        have htt3 : Hid ((acc ++ p) ++ normL isw (ps.drop (k + 1)) = T) := Lib.hid (by rw [← htt.out, hst.out, if_neg hsep]; simp)
        have hsp : (last && isw) = false := by simpa using hsep
        clear hsep
        cases last
        · go_wp2_with fail
          refine hws.out.mono ?_
          rintro e W3 ⟨rfl, hbld3, hB3, hk3⟩
          rw [hcd.out] at hbld3
          have hbld3' := Lib.hid hbld3
          have hown3 := Lib.hid (row_kept hown.out hne.out hk3)
          have hB3' := Lib.hid (hB.out.trans hB3)
          clear hbld3 hws hB3 hk3 hbld hown hB htt hst hL
          go_wp2
          go_roundw
          case rel => exact ⟨k + 1, _, isw, by omega, by go_num, rfl, htt3, hbld3', hown3, hB3'⟩
          case measure => simp [intOf]; omega
        · obtain rfl : isw = false := by simpa using hsp
          go_wp2_with fail
          refine hws.out.mono ?_
          rintro e W3 ⟨rfl, hbld3, hB3, hk3⟩
          rw [hcd.out] at hbld3
          have hbld3' := Lib.hid hbld3
          have hown3 := Lib.hid (row_kept hown.out hne.out hk3)
          have hB3' := Lib.hid (hB.out.trans hB3)
          clear hbld3 hws hB3 hk3 hbld hown hB htt hst hL
          go_wp2
          go_roundw
          case rel => exact ⟨k + 1, _, false, by omega, by go_num, rfl, htt3, hbld3', hown3, hB3'⟩
          case measure => simp [intOf]; omega
    · have hfin : Hid (acc = T) := Lib.hid (by
        have := htt.out
        rw [List.drop_of_length_le (by omega)] at this
        simpa [normL] using this)
      have hstr := Lib.hid (bstr_any w.heap.size w.heap.size acc wr hbld.out (by rw [hfin.out]; exact hTb.out) hB.out.size)
      clear hbld
      go_wp2_with fail
      refine hstr.out.mono ?_
      rintro e W3 ⟨rfl, -, hB3, -⟩
      have hres : Gives (.string (strOfNums T)) w (.returned (.string (strOfNums acc))) W3 := ⟨by rw [hfin.out], hB.out.trans hB3⟩
      clear hstr hB3
      go_wp2
      go_ret
      exact hres
end Go.Proofs.Ytbpaoiajfjkmfaa
namespace Go.Proofs.Ytbpaoiajfjkmfaa
open Go.RowKit
set_option linter.unusedVariables false
theorem wp_drawn_on (S : World → Prop) {P : Program} {ops : Array Oper} {Q : Exit → Act → World → Prop} {id : Nat} {a : Act} {w : World} (hm : P.follows .mixedOrders = true) (hS : S w.drew)
    (h : S w.drew → wpAnyH P .any ops Q S ops.size (Array.replicate ops.size false) a w.drew) : (Code.region id ops true).wp P Q a w :=
  wp_region_held_drew hm hS h
end Go.Proofs.Ytbpaoiajfjkmfaa
namespace Go.Proofs.Ytbpaoiajfjkmfaa
open Go.RowKit
set_option linter.unusedVariables false
set_option linter.unusedSimpArgs false
theorem good_len : ∀ (ps : List (List Int)) (last : Bool), (∀ p ∈ ps, Good p) → ps.length ≤ (normL last ps).length ∧ ∀ p ∈ ps, p.length ≤ (normL last ps).length := by
  intro ps
  induction ps with
  | nil => intro _ _; simp
  | cons p r ih =>
    intro last hg
    have h1 := ih (hw p) (fun x hx => hg x (by simp [hx]))
    have h2 : 0 < p.length := List.length_pos_iff.2 (hg p (by simp)).ne
    simp only [normL, List.length_append, List.length_cons]
    refine ⟨by omega, fun q hq => ?_⟩
    rcases List.mem_cons.1 hq with rfl | hq
    · omega
    · have := h1.2 q hq; omega
theorem parts_len (L : List Int) : (partsL L).length ≤ L.length := Nat.le_trans (good_len _ false (parts_good _ (Nat.le_refl _))).1 (normS_len L)
theorem part_len (L : List Int) : ∀ p ∈ partsL L, p.length ≤ L.length := fun p hp => Nat.le_trans ((good_len _ false (parts_good _ (Nat.le_refl _))).2 p hp) (normS_len L)
theorem map_dropLast_snoc (ls : List (List Int)) (x : List Int) : (ls.dropLast ++ [x]).map strOfNums = (ls.map strOfNums).dropLast ++ [strOfNums x] := by simp
theorem str_append' (a b : List Int) : strOfNums (a ++ b) = strOfNums a ++ strOfNums b := by
  apply ByteArray.ext
  apply Array.toList_inj.1
  simp [ByteArray.data_append, strOfNums_data]
set_option maxRecDepth 100000 in
set_option maxHeartbeats 4000000 in
theorem rparts_any (s : ByteArray) (hs : s.size ≤ 100000) (w : World) : Calls Try.prog 28 #[.string s] w (GivesT (partsL (codes s)) w) := by
  obtain ⟨i0, hi, hz0, hz1, hz2⟩ := info_parts infoStr
  have hL' := Lib.hid (codes_length s)
  have hbs' := Lib.hid (codes_bs s)
  have hsi : (s.size : Int) ≤ 100000 := by omega
  have hs' := Lib.hid hs
  clear hs
  go_enter Try.func28, Try.ntmps28
  go_wp2
  go_loopw [3, 4] (fun v i wr => ∃ k : Nat, k ≤ s.size ∧ i = .int .i64 k ∧ Hid (TRow wr w.heap.size v (partsL ((codes s).take k))) ∧ Hid (Below w.heap.size w wr)) (fun _ i _ => s.size - (intOf i).toNat)
  case atStart => exact ⟨0, by omega, rfl, Lib.hid (by simp [partsL_nil]; exact ⟨⟨rfl, .inl ⟨rfl, rfl⟩⟩, by simp [Value.ownBlock]⟩), Lib.hid (Below.refl _ _)⟩
  case round =>
    obtain ⟨k, hk, rfl, hrow, hB⟩ := hrel
    by_cases hlt : k < s.size
    · have gi := ix s k hlt
      have hkL : k < (codes s).length := by have := hL'.out; omega
      have hc := hbs'.out.at hkL
      have hcall := Lib.hid (fun W => dword_any ((codes s).getD k 0) hc.1 hc.2 W)
      have hsn : Hid (partsL ((codes s).take (k + 1)) = more1 (partsL ((codes s).take k)) (((codes s).take k).getLast?.getD 32) ((codes s).getD k 0)) := Lib.hid (by
        rw [← partsL_snoc _ _ _ (Nat.le_refl _), List.take_succ_eq_append_getElem hkL]
        simp [List.getD, hkL])
      have hpl : Hid ((partsL ((codes s).take k)).length ≤ 100000) := Lib.hid (by have := parts_len ((codes s).take k); simp at this; have := hs'.out; omega)
      have hpp : Hid (∀ p ∈ partsL ((codes s).take k), p.length ≤ 100000) := Lib.hid (fun p hp => by have := part_len ((codes s).take k) p hp; simp at this; have := hs'.out; omega)
      have hcut := cut_lh s k (k + 1) (by omega) (by omega)
      rw [show ((k + 1 : Nat) : Int) = (k : Int) + 1 by omega] at hcut
      have hone : ((codes s).take (k + 1)).drop k = [(codes s).getD k 0] := by
        rw [List.take_succ_eq_append_getElem hkL, List.drop_append_of_le_length (by simp; omega), List.drop_of_length_le (by simp; omega)]
        simp [List.getD, hkL]
      rw [hone] at hcut
      clear hone
      by_cases h32 : (codes s).getD k 0 = 32
      · have hsn' : Hid (partsL ((codes s).take (k + 1)) = partsL ((codes s).take k)) := Lib.hid (by rw [hsn.out, more1, if_pos h32])
        have he : ((codes s).getD k 0 == 32) = true := by simpa using h32
        clear hsn hcall hcut hpl hpp hc hkL
        rw [h32] at gi
        clear h32 he
        go_wp2
        go_roundw
        case rel => exact ⟨k + 1, by omega, by go_num, Lib.hid (by rw [hsn'.out]; exact hrow.out), hB⟩
        case measure => simp [intOf]; omega
      have hb32 : ((codes s).getD k 0 == 32) = false := by simpa using h32
      have hlast : Hid (0 < k → ((codes s).take k).getLast?.getD 32 = (codes s).getD (k - 1) 0) := Lib.hid (fun h0 => by
        have hk1 : k - 1 < (codes s).length := by omega
        have h1 : (codes s).take k = (codes s).take (k - 1) ++ [(codes s)[k - 1]] := by
          rw [← List.take_succ_eq_append_getElem hk1]; congr 1; omega
        rw [h1, List.getLast?_concat]; simp [List.getD, hk1])
      have hgp : Hid (0 < k → ∀ W, (Instr.index 9 (.string s) (.int .i64 ((k : Int) - 1))).run Try.prog W = .ok (.int .u8 ((codes s).getD (k - 1) 0)) W) := Lib.hid (fun h0 W => by
        have := ix s (k - 1) (by omega) W
        rw [show ((k - 1 : Nat) : Int) = (k : Int) - 1 by omega] at this
        exact this)
      have hcallp : Hid (0 < k → ∀ W, Calls Try.prog 29 #[.int .u8 ((codes s).getD (k - 1) 0)] W fun e w' => e = .returned (.bool (wdB ((codes s).getD (k - 1) 0))) ∧ Below W.heap.size W w') := Lib.hid (fun h0 W => by
        have hcp := hbs'.out.at (i := k - 1) (by omega)
        exact dword_any _ hcp.1 hcp.2 W)
      by_cases hwc : wdB ((codes s).getD k 0) = true
      · rw [hwc] at hcall
        by_cases h0 : 0 < k
        · have hgp' := hgp.out h0
          have hcallp' := Lib.hid (hcallp.out h0)
          have h0i : (0 : Int) < (k : Int) := by omega
          by_cases hwp : wdB ((codes s).getD (k - 1) 0) = true
          · have hne0 : partsL ((codes s).take k) ≠ [] := last_ne (by rw [hlast.out h0]; exact hwp)
            have hnew : Hid (partsL ((codes s).take (k + 1)) = (partsL ((codes s).take k)).dropLast ++ [(partsL ((codes s).take k)).getLast?.getD [] ++ [(codes s).getD k 0]]) := Lib.hid (by
              rw [hsn.out, more1, if_neg h32, if_pos ⟨hwc, by rw [hlast.out h0]; exact hwp⟩])
            rw [hwp] at hcallp'
            have hlp : Hid (((partsL ((codes s).take k)).getLast?.getD []).length ≤ 100000) := Lib.hid (by
              rw [List.getLast?_eq_some_getLast hne0]; exact hpp.out _ (List.getLast_mem hne0))
            have hlg : Hid ((partsL ((codes s).take k)).getD ((partsL ((codes s).take k)).length - 1) [] = (partsL ((codes s).take k)).getLast?.getD []) := Lib.hid (by
              rw [List.getLast?_eq_getElem?]; simp [List.getD])
            have hnz : 0 < (partsL ((codes s).take k)).length := List.length_pos_iff.2 hne0
            have hnl := hpl.out
            clear hgp hcallp hlast hsn hwc hwp h32 hpp hc hkL hpl
            generalize (codes s).getD (k - 1) 0 = cp at *
            generalize (codes s).getD k 0 = ch at *
            generalize partsL ((codes s).take k) = ps at *
            generalize ps.getLast?.getD [] = lp at *
            rcases hrow.out.1.2 with ⟨rfl, h0'⟩ | ⟨g, cap, cur, rfl, _, hgg, _, _, _, _⟩
            · simp at h0'; exact absurd h0' hne0
            clear hgg hne0
            go_wp2_with fail
            refine (hcall.out _).mono ?_
            rintro e W1 ⟨rfl, hB1⟩
            have hB1' := Lib.hid hB1
            clear hB1
            go_wp2_with fail
            refine (hcallp'.out _).mono ?_
            rintro e W2 ⟨rfl, hB2⟩
            have hrow2 := Lib.hid (own_below (own_below hrow.out.1 hB1'.out) hB2)
            have hB2' := Lib.hid ((hB.out.trans (hB1'.out.mono hB.out.size)).trans (hB2.mono (by have := hB.out.size; have := hB1'.out.size; omega)))
            have hown2 := hrow2.out
            have hgB := hrow.out.2 g rfl
            clear hB2 hrow hB hB1' hcall hcallp'
            obtain ⟨m, hm⟩ : ∃ m, ps.length = m + 1 := ⟨ps.length - 1, by omega⟩
            have hml : (List.map strOfNums ps).length = m + 1 := by simpa using hm
            have hcm : W2.cell? ⟨g, m, none⟩ = some (.string (strOfNums lp)) := by
              have := hown2.cells (g := g) rfl m (.string (strOfNums lp)) (by
                have hl := hlg.out
                rw [hm] at hl
                simp at hl
                simp [txts]
                exact ⟨lp, by rw [← hl]; simp [List.getD, hm], rfl⟩)
              have h2 : (⟨g, 0, none⟩ : Addr).add m = ⟨g, m, none⟩ := by unfold Addr.add; split <;> simp_all
              rw [h2] at this; exact this
            have hfz : W2.frozen? ⟨g, m, none⟩ = false := own_free hown2 m
            have hfin : Hid (TRow ((W2.setCell ⟨g, m, none⟩ (.string (strOfNums lp ++ strOfNums [ch]))).drew) w.heap.size (.slice (some ⟨g, 0, none⟩) (m + 1) cap) (partsL ((codes s).take (k + 1))) ∧ Below w.heap.size w ((W2.setCell ⟨g, m, none⟩ (.string (strOfNums lp ++ strOfNums [ch]))).drew)) := Lib.hid (by
              have h1 := own_set hown2 m (by rw [hml]; omega) (.string (strOfNums lp ++ strOfNums [ch]))
              have hx : txts (List.map strOfNums ps) ≠ [] := by intro e; have := congrArg List.length e; rw [txts_length, hml] at this; simp at this
              have h2 := set_last hx (.string (strOfNums lp ++ strOfNums [ch]))
              rw [show (txts (List.map strOfNums ps)).length - 1 = m by simp [txts]; omega] at h2
              rw [h2] at h1
              refine ⟨⟨?_, fun q hq => by simp [Value.ownBlock] at hq; omega⟩, (hB2'.out.setCell (p := ⟨g, m, none⟩) hgB _).drew⟩
              rw [hnew.out, map_dropLast_snoc, str_append']
              have h3 : txts ((List.map strOfNums ps).dropLast ++ [strOfNums lp ++ strOfNums [ch]]) = (txts (List.map strOfNums ps)).dropLast ++ [.string (strOfNums lp ++ strOfNums [ch])] := by simp [txts]
              have h4 : ((List.map strOfNums ps).dropLast ++ [strOfNums lp ++ strOfNums [ch]]).length = (List.map strOfNums ps).length := by simp; omega
              rw [h3, h4, ← hml]
              exact h1)
            have hbig : ¬ 9223372036854775807 < (strOfNums lp).size + (strOfNums [ch]).size := by
              have := hlp.out
              rw [strOfNums_size, strOfNums_size]; simp; omega
            have hm0 := Lib.hid hm
            clear hm hown2 hrow2 hlg hlp hnew hB2' hnz
            have hmi : (m : Int) ≤ 100000 := by have := hm0.out; omega
            simp only [List.length_map, hm0.out]
            clear hml hnl
            have hw1 : IntKind.i64.wrap ((m : Int) + 1 - 1) = (m : Int) := by simp [IntKind.wrap, IntKind.bits, IntKind.signed]; omega
            have hm1 : (m : Int) < (m : Int) + 1 := by omega
            have hw3 : IntKind.i64.wrap ((k : Int) + 1) = (k : Int) + 1 := by simp [IntKind.wrap, IntKind.bits, IntKind.signed]; omega
            have hw2 : IntKind.i64.wrap (m : Int) = (m : Int) := by simp [IntKind.wrap, IntKind.bits, IntKind.signed]; omega
            generalize strOfNums lp = f0 at *
            generalize strOfNums [ch] = g0 at *
            go_wp2
            refine wp_drawn_on (fun _ => True) (by kernel_rfl) (trivial) (fun hHeld => ?_)
            refine wpAnyH_take (i := 0) (oi := { dst := some 40, op := Go.Op.move (Go.Operand.tmp 3), type := 52, pos := "ref.go:19", after := #[], guard := none }) (v := ?v1) rfl (by kernel_rfl) (by kernel_rfl) (by kernel_rfl) (fun _ _ _ h => h) (Or.inl ⟨by kernel_rfl, ?h1⟩) (by assumption) ?r1
            case h1 => (intro w hSw; (try dsimp only at hSw); go_simp; try with_reducible rfl)
            try simp only [Act.put, List.setIfInBounds_toArray, List.set_cons_zero, List.set_cons_succ]
            refine wpAnyH_take (i := 1) (oi := { dst := some 41, op := Go.Op.move (Go.Operand.tmp 3), type := 52, pos := "ref.go:19", after := #[], guard := none }) (v := ?v2) rfl (by kernel_rfl) (by kernel_rfl) (by kernel_rfl) (fun _ _ _ h => h) (Or.inl ⟨by kernel_rfl, ?h2⟩) (by assumption) ?r2
            case h2 => (intro w hSw; (try dsimp only at hSw); go_simp; try with_reducible rfl)
            try simp only [Act.put, List.setIfInBounds_toArray, List.set_cons_zero, List.set_cons_succ]
            refine wpAnyH_take (i := 2) (oi := { dst := some 42, op := Go.Op.call { callee := Go.Callee.builtin Go.Builtin.len, args := #[Go.Operand.tmp 41], argTypes := #[52] }, type := 3, pos := "ref.go:19", after := #[{ on := 1, ground := Go.Ground.data }], guard := none }) (v := ?v3) rfl (by kernel_rfl) (by kernel_rfl) (by kernel_rfl) (fun _ _ _ h => h) (Or.inl ⟨by kernel_rfl, ?h3⟩) (by assumption) ?r3
            case h3 => (intro w hSw; (try dsimp only at hSw); go_simp; try with_reducible rfl)
            try simp only [Act.put, List.setIfInBounds_toArray, List.set_cons_zero, List.set_cons_succ]
            refine wpAnyH_take (i := 3) (oi := { dst := some 43, op := Go.Op.binOp Go.BinOp.sub 3 (Go.Operand.tmp 42) (Go.Operand.const (Go.Value.int Go.IntKind.i64 1)) 3, type := 3, pos := "ref.go:19", after := #[{ on := 2, ground := Go.Ground.data }], guard := none }) (v := ?v4) rfl (by kernel_rfl) (by kernel_rfl) (by kernel_rfl) (fun _ _ _ h => h) (Or.inl ⟨by kernel_rfl, ?h4⟩) (by assumption) ?r4
            case h4 => (intro w hSw; (try dsimp only at hSw); go_simp; try with_reducible rfl)
            try simp only [Act.put, List.setIfInBounds_toArray, List.set_cons_zero, List.set_cons_succ]
            refine wpAnyH_take (i := 4) (oi := { dst := some 44, op := Go.Op.move (Go.Operand.tmp 3), type := 52, pos := "ref.go:19", after := #[], guard := none }) (v := ?v5) rfl (by kernel_rfl) (by kernel_rfl) (by kernel_rfl) (fun _ _ _ h => h) (Or.inl ⟨by kernel_rfl, ?h5⟩) (by assumption) ?r5
            case h5 => (intro w hSw; (try dsimp only at hSw); go_simp; try with_reducible rfl)
            try simp only [Act.put, List.setIfInBounds_toArray, List.set_cons_zero, List.set_cons_succ]
            refine wpAnyH_take (i := 5) (oi := { dst := some 45, op := Go.Op.move (Go.Operand.tmp 3), type := 52, pos := "ref.go:19", after := #[], guard := none }) (v := ?v6) rfl (by kernel_rfl) (by kernel_rfl) (by kernel_rfl) (fun _ _ _ h => h) (Or.inl ⟨by kernel_rfl, ?h6⟩) (by assumption) ?r6
            case h6 => (intro w hSw; (try dsimp only at hSw); go_simp; try with_reducible rfl)
            try simp only [Act.put, List.setIfInBounds_toArray, List.set_cons_zero, List.set_cons_succ]
            refine wpAnyH_take (i := 6) (oi := { dst := some 46, op := Go.Op.call { callee := Go.Callee.builtin Go.Builtin.len, args := #[Go.Operand.tmp 45], argTypes := #[52] }, type := 3, pos := "ref.go:19", after := #[{ on := 5, ground := Go.Ground.data }], guard := none }) (v := ?v7) rfl (by kernel_rfl) (by kernel_rfl) (by kernel_rfl) (fun _ _ _ h => h) (Or.inl ⟨by kernel_rfl, ?h7⟩) (by assumption) ?r7
            case h7 => (intro w hSw; (try dsimp only at hSw); go_simp; try with_reducible rfl)
            try simp only [Act.put, List.setIfInBounds_toArray, List.set_cons_zero, List.set_cons_succ]
            refine wpAnyH_take (i := 7) (oi := { dst := some 47, op := Go.Op.binOp Go.BinOp.sub 3 (Go.Operand.tmp 46) (Go.Operand.const (Go.Value.int Go.IntKind.i64 1)) 3, type := 3, pos := "ref.go:19", after := #[{ on := 6, ground := Go.Ground.data }], guard := none }) (v := ?v8) rfl (by kernel_rfl) (by kernel_rfl) (by kernel_rfl) (fun _ _ _ h => h) (Or.inl ⟨by kernel_rfl, ?h8⟩) (by assumption) ?r8
            case h8 => (intro w hSw; (try dsimp only at hSw); go_simp; try with_reducible rfl)
            try simp only [Act.put, List.setIfInBounds_toArray, List.set_cons_zero, List.set_cons_succ]
            refine wpAnyH_take (i := 8) (oi := { dst := some 48, op := Go.Op.indexAddr 52 (Go.Operand.tmp 44) (Go.Operand.tmp 47), type := 0, pos := "ref.go:19", after := #[{ on := 4, ground := Go.Ground.data }, { on := 7, ground := Go.Ground.data }], guard := none }) (v := ?v9) rfl (by kernel_rfl) (by kernel_rfl) (by kernel_rfl) (fun _ _ _ h => h) (Or.inl ⟨by kernel_rfl, ?h9⟩) (by assumption) ?r9
            case h9 => (intro w hSw; (try dsimp only at hSw); go_simp; try with_reducible rfl)
            try simp only [Act.put, List.setIfInBounds_toArray, List.set_cons_zero, List.set_cons_succ]
            refine wpAnyH_take (i := 10) (oi := { dst := some 50, op := Go.Op.move (Go.Operand.tmp 0), type := 9, pos := "ref.go:19", after := #[], guard := none }) (v := ?v10) rfl (by kernel_rfl) (by kernel_rfl) (by kernel_rfl) (fun _ _ _ h => h) (Or.inl ⟨by kernel_rfl, ?h10⟩) (by assumption) ?r10
            case h10 => (intro w hSw; (try dsimp only at hSw); go_simp; try with_reducible rfl)
            try simp only [Act.put, List.setIfInBounds_toArray, List.set_cons_zero, List.set_cons_succ]
            refine wpAnyH_take (i := 11) (oi := { dst := some 51, op := Go.Op.move (Go.Operand.tmp 4), type := 3, pos := "ref.go:19", after := #[], guard := none }) (v := ?v11) rfl (by kernel_rfl) (by kernel_rfl) (by kernel_rfl) (fun _ _ _ h => h) (Or.inl ⟨by kernel_rfl, ?h11⟩) (by assumption) ?r11
            case h11 => (intro w hSw; (try dsimp only at hSw); go_simp; try with_reducible rfl)
            try simp only [Act.put, List.setIfInBounds_toArray, List.set_cons_zero, List.set_cons_succ]
            refine wpAnyH_take (i := 12) (oi := { dst := some 52, op := Go.Op.move (Go.Operand.tmp 4), type := 3, pos := "ref.go:19", after := #[], guard := none }) (v := ?v12) rfl (by kernel_rfl) (by kernel_rfl) (by kernel_rfl) (fun _ _ _ h => h) (Or.inl ⟨by kernel_rfl, ?h12⟩) (by assumption) ?r12
            case h12 => (intro w hSw; (try dsimp only at hSw); go_simp; try with_reducible rfl)
            try simp only [Act.put, List.setIfInBounds_toArray, List.set_cons_zero, List.set_cons_succ]
            refine wpAnyH_take (i := 13) (oi := { dst := some 53, op := Go.Op.binOp Go.BinOp.add 3 (Go.Operand.tmp 52) (Go.Operand.const (Go.Value.int Go.IntKind.i64 1)) 3, type := 3, pos := "ref.go:19", after := #[{ on := 12, ground := Go.Ground.data }], guard := none }) (v := ?v13) rfl (by kernel_rfl) (by kernel_rfl) (by kernel_rfl) (fun _ _ _ h => h) (Or.inl ⟨by kernel_rfl, ?h13⟩) (by assumption) ?r13
            case h13 => (intro w hSw; (try dsimp only at hSw); go_simp; try with_reducible rfl)
            try simp only [Act.put, List.setIfInBounds_toArray, List.set_cons_zero, List.set_cons_succ]
            refine wpAnyH_take (i := 14) (oi := { dst := some 54, op := Go.Op.slice 9 (Go.Operand.tmp 50) (some (Go.Operand.tmp 51)) (some (Go.Operand.tmp 53)) none, type := 9, pos := "ref.go:19", after := #[{ on := 10, ground := Go.Ground.data }, { on := 11, ground := Go.Ground.data }, { on := 13, ground := Go.Ground.data }], guard := none }) (v := ?v14) rfl (by kernel_rfl) (by kernel_rfl) (by kernel_rfl) (fun _ _ _ h => h) (Or.inl ⟨by kernel_rfl, ?h14⟩) (by assumption) ?r14
            case h14 => (intro w hSw; (try dsimp only at hSw); go_simp; try with_reducible rfl)
            try simp only [Act.put, List.setIfInBounds_toArray, List.set_cons_zero, List.set_cons_succ]
            refine wpAnyH_ready (rs := [9]) (by kernel_rfl) (by simp) ?_
            refine AllReadyH.cons (o := { dst := some 49, op := Go.Op.load 9 (Go.Operand.tmp 48), type := 9, pos := "ref.go:19", after := #[{ on := 8, ground := Go.Ground.data }], guard := none }) rfl (fun K hK => ?_) AllReadyH.nil
            go_simp
            refine hK.out _ _ hHeld (fun hHeld => ?_)
            clear hK K
            try simp only [Act.put, List.setIfInBounds_toArray, List.set_cons_zero, List.set_cons_succ]
            refine wpAnyH_take (i := 15) (oi := { dst := some 55, op := Go.Op.binOp Go.BinOp.add 9 (Go.Operand.tmp 49) (Go.Operand.tmp 54) 9, type := 9, pos := "ref.go:19", after := #[{ on := 9, ground := Go.Ground.data }, { on := 14, ground := Go.Ground.data }], guard := none }) (v := ?v15) rfl (by kernel_rfl) (by kernel_rfl) (by kernel_rfl) (fun _ _ _ h => h) (Or.inl ⟨by kernel_rfl, ?h15⟩) (by assumption) ?r15
            case h15 => (intro w hSw; (try dsimp only at hSw); go_simp; try with_reducible rfl)
            try simp only [Act.put, List.setIfInBounds_toArray, List.set_cons_zero, List.set_cons_succ]
            refine wpAnyH_take (i := 16) (oi := { dst := some 56, op := Go.Op.indexAddr 52 (Go.Operand.tmp 40) (Go.Operand.tmp 43), type := 0, pos := "ref.go:19", after := #[{ on := 0, ground := Go.Ground.data }, { on := 3, ground := Go.Ground.data }, { on := 0, ground := Go.Ground.phase }, { on := 1, ground := Go.Ground.phase }, { on := 2, ground := Go.Ground.phase }, { on := 3, ground := Go.Ground.phase }, { on := 4, ground := Go.Ground.phase }, { on := 5, ground := Go.Ground.phase }, { on := 6, ground := Go.Ground.phase }, { on := 7, ground := Go.Ground.phase }, { on := 8, ground := Go.Ground.phase }, { on := 9, ground := Go.Ground.phase }, { on := 10, ground := Go.Ground.phase }, { on := 11, ground := Go.Ground.phase }, { on := 12, ground := Go.Ground.phase }, { on := 13, ground := Go.Ground.phase }, { on := 14, ground := Go.Ground.phase }, { on := 15, ground := Go.Ground.phase }], guard := none }) (v := ?v16) rfl (by kernel_rfl) (by kernel_rfl) (by kernel_rfl) (fun _ _ _ h => h) (Or.inl ⟨by kernel_rfl, ?h16⟩) (by assumption) ?r16
            case h16 => (intro w hSw; (try dsimp only at hSw); go_simp; try with_reducible rfl)
            try simp only [Act.put, List.setIfInBounds_toArray, List.set_cons_zero, List.set_cons_succ]
            refine wpAnyH_ready (rs := [17]) (by kernel_rfl) (by simp) ?_
            refine AllReadyH.cons (o := { dst := none, op := Go.Op.store 9 (Go.Operand.tmp 56) (Go.Operand.tmp 55), type := 0, pos := "ref.go:19", after := #[{ on := 16, ground := Go.Ground.data }, { on := 15, ground := Go.Ground.data }, { on := 0, ground := Go.Ground.phase }, { on := 1, ground := Go.Ground.phase }, { on := 2, ground := Go.Ground.phase }, { on := 3, ground := Go.Ground.phase }, { on := 4, ground := Go.Ground.phase }, { on := 5, ground := Go.Ground.phase }, { on := 6, ground := Go.Ground.phase }, { on := 7, ground := Go.Ground.phase }, { on := 8, ground := Go.Ground.phase }, { on := 9, ground := Go.Ground.phase }, { on := 10, ground := Go.Ground.phase }, { on := 11, ground := Go.Ground.phase }, { on := 12, ground := Go.Ground.phase }, { on := 13, ground := Go.Ground.phase }, { on := 14, ground := Go.Ground.phase }, { on := 15, ground := Go.Ground.phase }], guard := none }) rfl (fun K hK => ?_) AllReadyH.nil
            go_simp
            refine hK.out _ _ (trivial) (fun hHeld => ?_)
            clear hK K
            try simp only [Act.put, List.setIfInBounds_toArray, List.set_cons_zero, List.set_cons_succ]
            refine wpAnyH_done (by kernel_rfl) ?_ _
            go_wp2
            go_roundw
            case rel => exact ⟨k + 1, by omega, by go_num, Lib.hid hfin.out.1, Lib.hid hfin.out.2⟩
            case measure => simp [intOf]; omega
          · have hnew : Hid (partsL ((codes s).take (k + 1)) = partsL ((codes s).take k) ++ [[(codes s).getD k 0]]) := Lib.hid (by
              rw [hsn.out, more1, if_neg h32, if_neg (by rw [hlast.out h0]; exact fun h => hwp h.2)])
            have hwp' : wdB ((codes s).getD (k - 1) 0) = false := by simpa using hwp
            rw [hwp'] at hcallp'
            clear hgp hcallp hlast hsn hwc hwp h32 hpp hc hkL hwp'
            generalize (codes s).getD (k - 1) 0 = cp at *
            generalize (codes s).getD k 0 = ch at *
            generalize partsL ((codes s).take k) = ps at *
            go_wp2_with fail
            refine (hcall.out _).mono ?_
            rintro e W1 ⟨rfl, hB1⟩
            have hB1' := Lib.hid hB1
            clear hB1
            go_wp2_with fail
            refine (hcallp'.out _).mono ?_
            rintro e W2 ⟨rfl, hB2⟩
            have hrowN : Hid (TRow W2 w.heap.size u3 ps) := Lib.hid ⟨own_below (own_below hrow.out.1 hB1'.out) hB2, hrow.out.2⟩
            have hBN := Lib.hid ((hB.out.trans (hB1'.out.mono hB.out.size)).trans (hB2.mono (by have := hB.out.size; have := hB1'.out.size; omega)))
            clear hB2 hB1' hrow hB
            go_wp2_with (at_builtin; refine wpList_append_text _ rfl (.tmp 11) (.tmp 17) 52 rfl 9 i0 (.string ⟨#[]⟩) 16 Try.underlying52 hi hz0 hz1 hz2 rfl u3 (ps.map strOfNums) ((own_below hrowN.out.1 ((Below.refl _ _).alloc (Nat.le_refl _) _))) _ (strOfNums [ch]) 1 (by simp [go_sem]) rfl rfl (by have := hpl.out; simp [maxLen]; omega) (by have := hpl.out; simp; omega) ?_; intro v' w1 own1 grow1 blk1; have hpu := Lib.hid (push hrowN.out hBN.out hBN.out.size own1 grow1 blk1); clear own1 grow1 blk1)
            go_roundw
            case rel => exact ⟨k + 1, by omega, by go_num, Lib.hid (by rw [hnew.out]; exact hpu.out.1), Lib.hid hpu.out.2⟩
            case measure => simp [intOf]; omega
        · obtain rfl : k = 0 := by omega
          have hnew : Hid (partsL ((codes s).take (0 + 1)) = partsL ((codes s).take 0) ++ [[(codes s).getD 0 0]]) := Lib.hid (by
            rw [hsn.out, more1, if_neg h32, if_neg (by simp; intro _; decide)])
          clear hgp hcallp hlast hsn hwc h32 hpp hc hkL h0
          generalize (codes s).getD 0 0 = ch at *
          generalize partsL ((codes s).take 0) = ps at *
          simp only [Int.natCast_zero, Int.zero_add] at gi hcut
          go_wp2_with fail
          refine (hcall.out _).mono ?_
          rintro e W1 ⟨rfl, hB1⟩
          have hrowN : Hid (TRow W1 w.heap.size u3 ps) := Lib.hid ⟨own_below hrow.out.1 hB1, hrow.out.2⟩
          have hBN := Lib.hid (hB.out.trans (hB1.mono hB.out.size))
          clear hB1 hrow hB
          go_wp2_with (at_builtin; refine wpList_append_text _ rfl (.tmp 11) (.tmp 17) 52 rfl 9 i0 (.string ⟨#[]⟩) 16 Try.underlying52 hi hz0 hz1 hz2 rfl u3 (ps.map strOfNums) ((own_below hrowN.out.1 ((Below.refl _ _).alloc (Nat.le_refl _) _))) _ (strOfNums [ch]) 1 (by simp [go_sem]) rfl rfl (by have := hpl.out; simp [maxLen]; omega) (by have := hpl.out; simp; omega) ?_; intro v' w1 own1 grow1 blk1; have hpu := Lib.hid (push hrowN.out hBN.out hBN.out.size own1 grow1 blk1); clear own1 grow1 blk1)
          go_roundw
          case rel => exact ⟨1, by omega, by go_num, Lib.hid (by rw [hnew.out]; exact hpu.out.1), Lib.hid hpu.out.2⟩
          case measure => simp [intOf]; omega
      · have hwc' : wdB ((codes s).getD k 0) = false := by simpa using hwc
        rw [hwc'] at hcall
        have hnew : Hid (partsL ((codes s).take (k + 1)) = partsL ((codes s).take k) ++ [[(codes s).getD k 0]]) := Lib.hid (by
          rw [hsn.out, more1, if_neg h32, if_neg (fun h => by rw [hwc'] at h; exact absurd h.1 (by decide))])
        clear hgp hcallp hlast hsn hwc h32 hpp hc hkL hwc'
        generalize (codes s).getD k 0 = ch at *
        generalize partsL ((codes s).take k) = ps at *
        go_wp2_with fail
        refine (hcall.out _).mono ?_
        rintro e W1 ⟨rfl, hB1⟩
        have hrowN : Hid (TRow W1 w.heap.size u3 ps) := Lib.hid ⟨own_below hrow.out.1 hB1, hrow.out.2⟩
        have hBN := Lib.hid (hB.out.trans (hB1.mono hB.out.size))
        clear hB1 hrow hB
        go_wp2_with (at_builtin; refine wpList_append_text _ rfl (.tmp 11) (.tmp 17) 52 rfl 9 i0 (.string ⟨#[]⟩) 16 Try.underlying52 hi hz0 hz1 hz2 rfl u3 (ps.map strOfNums) ((own_below hrowN.out.1 ((Below.refl _ _).alloc (Nat.le_refl _) _))) _ (strOfNums [ch]) 1 (by simp [go_sem]) rfl rfl (by have := hpl.out; simp [maxLen]; omega) (by have := hpl.out; simp; omega) ?_; intro v' w1 own1 grow1 blk1; have hpu := Lib.hid (push hrowN.out hBN.out hBN.out.size own1 grow1 blk1); clear own1 grow1 blk1)
        go_roundw
        case rel => exact ⟨k + 1, by omega, by go_num, Lib.hid (by rw [hnew.out]; exact hpu.out.1), Lib.hid hpu.out.2⟩
        case measure => simp [intOf]; omega
    · have hfin : Hid (GivesT (partsL (codes s)) w (.returned u3) wr) := Lib.hid (by
        have := hrow.out
        rw [List.take_of_length_le (by have := hL'.out; omega)] at this
        exact ⟨_, rfl, this, hB.out⟩)
      go_wp2
      go_ret
      exact hfin.out
end Go.Proofs.Ytbpaoiajfjkmfaa
namespace Go.Proofs.Ytbpaoiajfjkmfaa
open Go.RowKit
set_option linter.unusedVariables false
set_option linter.unusedSimpArgs false
theorem GivesT.open {ls : List (List Int)} {w w' : World} {e : Ending} (h : GivesT ls w e w') : ∃ a c, e = .returned (.slice a (ls.map strOfNums).length c) ∧ (ls.map strOfNums).length ≤ c ∧ SeesT w'.heap.size w' a (ls.map strOfNums) ∧ Below w.heap.size w w' := by
  obtain ⟨v, rfl, hr, hb⟩ := h
  obtain ⟨a, c, rfl, -, hs⟩ := sees_ownT hr.1
  refine ⟨a, c, rfl, ?_, hs, hb⟩
  rcases hr.1.2 with ⟨h1, h2⟩ | ⟨g, cap, cur, h1, _, _, h2, _⟩
  · injection h1 with _ h3 h4; omega
  · injection h1 with _ h3 h4; omega
set_option maxRecDepth 100000 in
set_option maxHeartbeats 4000000 in
theorem rnorm_any (s : ByteArray) (hs : s.size ≤ 100000) (w : World) : Calls Try.prog 18 #[.string s] w (Gives (.string (strOfNums (normS (codes s)))) w) := by
  have hlen := normS_len (codes s)
  rw [codes_length] at hlen
  have hgood := parts_good _ (Nat.le_refl (codes s).length)
  have hbsAll := parts_bs _ (Nat.le_refl (codes s).length) (codes_bs s)
  have htot : Hid (normL false (partsL (codes s)) = normS (codes s)) := Lib.hid rfl
  have hT : Hid ((normS (codes s)).length ≤ 100000) := Lib.hid (by omega)
  have hTb : Hid (Bs (normS (codes s))) := Lib.hid (norm_bs hbsAll false)
  have hgood' := Lib.hid hgood
  have hbs' := Lib.hid hbsAll
  have hpl' := Lib.hid (fun W => rparts_any s hs W)
  have hnum : Hid ((partsL (codes s)).length ≤ 100000) := Lib.hid (by have := parts_len (codes s); rw [codes_length] at this; omega)
  clear hlen hgood hbsAll hs
  generalize partsL (codes s) = ps at *
  generalize normS (codes s) = T at *
  go_enter Try.func18, Try.ntmps18
  go_wp2_with fail
  refine (hpl'.out _).mono ?_
  rintro e W1 h1
  obtain ⟨a, c, rfl, -, s1, hB1⟩ := h1.open
  have s1' := Lib.hid s1
  have hB0 := Lib.hid hB1
  clear h1 s1 hB1 hpl'
  go_wp2
  go_loopw [3, 4, 6] (fun tx word i wr => ∃ (k : Nat) (acc : List Int) (last : Bool), k ≤ ps.length ∧ i = .int .i64 k ∧ word = .bool last ∧ tx = .string (strOfNums acc) ∧ Hid (acc ++ normL last (ps.drop k) = T) ∧ Hid (Below W1.heap.size W1 wr)) (fun _ _ i _ => ps.length - (intOf i).toNat)
  case atStart => exact ⟨0, [], false, by omega, rfl, rfl, rfl, Lib.hid (by simpa using htot.out), Lib.hid (Below.refl _ _)⟩
  case round =>
    obtain ⟨k, acc, last, hk, rfl, rfl, rfl, htt, hB⟩ := hrel
    have hkb := hnum.out
    by_cases hlt : k < ps.length
    · rcases s1'.out.below hB.out with h | ⟨b1, o1, rfl, -, g1⟩
      · have := congrArg List.length h; rw [List.length_map] at this; simp only [List.length_nil] at this; omega
      have e1 := g1 k (by simpa using hlt)
      rw [show (ps.map strOfNums).getD k ⟨#[]⟩ = strOfNums (ps.getD k []) by simp [List.getD, hlt]] at e1
      clear g1
      have hgk := hgood'.out (ps.getD k []) (by simp [List.getD, hlt])
      have hbk := hbs'.out (ps.getD k []) (by simp [List.getD, hlt])
      have hst := Lib.hid (norm_step hlt last)
      have hpl : 0 < (ps.getD k []).length := List.length_pos_iff.2 hgk.ne
      have hz : ∀ W, (Instr.index 9 (.string (strOfNums (ps.getD k []))) (.int .i64 0)).run Try.prog W = .ok (.int .u8 ((ps.getD k []).headD 0)) W := fun W => by
        have := ix (strOfNums (ps.getD k [])) 0 (by rw [← codes_length, codes_str hbk]; exact hpl) W
        rw [codes_str hbk, head_at hgk.ne] at this
        exact this
      have hc0 := hbk.at hpl
      rw [head_at hgk.ne] at hc0
      have hcall := Lib.hid (fun W => dword_any ((ps.getD k []).headD 0) hc0.1 hc0.2 W)
      rw [show wdB ((ps.getD k []).headD 0) = hw (ps.getD k []) from rfl] at hcall
      have hL : Hid ((acc ++ normL last (ps.drop k)).length ≤ 100000) := Lib.hid (by rw [htt.out]; exact hT.out)
      clear hgk hbk hpl hc0
      generalize (ps.getD k []).headD 0 = c0 at *
      generalize ps.getD k [] = p at *
      generalize hw p = isw at *
      have hcat : ¬ 9223372036854775807 < (strOfNums acc).size + (strOfNums p).size := by
        have := hL.out; rw [hst.out] at this; rw [strOfNums_size, strOfNums_size]; simp at this; omega
      have hcat1 : ¬ 9223372036854775807 < (strOfNums acc).size + 1 := by
        have := hL.out; rw [strOfNums_size]; simp at this; omega
      have hcat2 : ¬ 9223372036854775807 < (strOfNums acc).size + 1 + (strOfNums p).size := by
        have := hL.out; rw [hst.out] at this; rw [strOfNums_size, strOfNums_size]; simp at this; omega
      go_wp2_with fail
      refine (hcall.out _).mono ?_
      rintro e W2 ⟨rfl, hB2⟩
      have e2 : W2.cell? ⟨b1, o1 + k, none⟩ = some (.string (strOfNums p)) := (hB2.cell (p := ⟨b1, o1 + k, none⟩) (World.block_lt_of_cell? _ _ e1)).trans e1
      have hB2' := Lib.hid (hB.out.trans (hB2.mono hB.out.size))
      clear hB2 e1 hB hcall
      by_cases hsep : (last && isw) = true
      · obtain ⟨rfl, rfl⟩ : last = true ∧ isw = true := by cases last <;> cases isw <;> simp_all
        have htt3 : Hid ((acc ++ [32] ++ p) ++ normL true (ps.drop (k + 1)) = T) := Lib.hid (by rw [← htt.out, hst.out]; simp)
        have hacc : Hid (strOfNums (acc ++ [32] ++ p) = strOfNums acc ++ ⟨#[32]⟩ ++ strOfNums p) := Lib.hid (by rw [str_append', str_append']; rfl)
        clear hsep htt hst hL
        generalize hx : strOfNums (acc ++ [32] ++ p) = x3 at *
        have hx' := Lib.hid hx
        clear hx
        go_wp2
        go_roundw
        case rel => exact ⟨k + 1, _, true, by omega, by go_num, rfl, by rw [hx'.out, hacc.out], htt3, hB2'⟩
        case measure => simp [intOf]; omega
      · have htt3 : Hid ((acc ++ p) ++ normL isw (ps.drop (k + 1)) = T) := Lib.hid (by rw [← htt.out, hst.out, if_neg hsep]; simp)
        have hacc : Hid (strOfNums (acc ++ p) = strOfNums acc ++ strOfNums p) := Lib.hid (str_append' _ _)
        have hsp : (last && isw) = false := by simpa using hsep
        clear hsep htt hst hL
        cases last
        · clear hsp
          go_wp2
          go_roundw
          case rel => exact ⟨k + 1, _, isw, by omega, by go_num, rfl, by rw [hacc.out], htt3, hB2'⟩
          case measure => simp [intOf]; omega
        · obtain rfl : isw = false := by simpa using hsp
          clear hsp
          go_wp2
          go_roundw
          case rel => exact ⟨k + 1, _, false, by omega, by go_num, rfl, by rw [hacc.out], htt3, hB2'⟩
          case measure => simp [intOf]; omega
    · have hfin : Hid (acc = T) := Lib.hid (by
        have := htt.out
        rw [List.drop_of_length_le (by omega)] at this
        simpa [normL] using this)
      have hres : Gives (.string (strOfNums T)) w (.returned (.string (strOfNums acc))) wr := ⟨by rw [hfin.out], hB0.out.trans (hB.out.mono hB0.out.size)⟩
      go_wp2
      go_ret
      exact hres
end Go.Proofs.Ytbpaoiajfjkmfaa
namespace Go.Proofs.Ytbpaoiajfjkmfaa
set_option linter.unusedVariables false
def leb (n : Nat) : List Int := if n < 128 then [(n : Int)] else ((n % 128 + 128 : Nat) : Int) :: leb (n / 128)
termination_by n
decreasing_by omega
theorem leb_small {n : Nat} (h : n < 128) : leb n = [(n : Int)] := by rw [leb]; simp [h]
theorem leb_big {n : Nat} (h : 128 ≤ n) : leb n = ((n % 128 + 128 : Nat) : Int) :: leb (n / 128) := by rw [leb]; simp [show ¬ n < 128 by omega]
def U64 (n : Int) : Prop := 0 ≤ n ∧ n ≤ 18446744073709551615
theorem leb_len (k : Nat) : ∀ n, n < 128 ^ (k + 1) → (leb n).length ≤ k + 1 := by
  induction k with
  | zero => intro n h; rw [leb_small (by simpa using h)]; simp
  | succ k ih =>
    intro n h
    by_cases hn : n < 128
    · rw [leb_small hn]; simp
    · rw [leb_big (by omega)]
      have := ih (n / 128) (by rw [Nat.div_lt_iff_lt_mul (by omega)]; rw [Nat.pow_succ] at h; exact h)
      simp; omega
theorem leb_len64 {n : Nat} (h : n ≤ 18446744073709551615) : (leb n).length ≤ 10 := leb_len 9 n (by omega)
theorem leb_int {m : Int} (h : 128 ≤ m) : leb m.toNat = (m % 128 + 128) :: leb (m / 128).toNat := by
  rw [leb_big (by omega)]
  rw [show m.toNat / 128 = (m / 128).toNat by omega, show ((m.toNat % 128 + 128 : Nat) : Int) = m % 128 + 128 by omega]
theorem leb_int_len {m : Int} (h : 128 ≤ m) : (leb m.toNat).length = (leb (m / 128).toNat).length + 1 := by rw [leb_int h]; simp
theorem leb_int_small {m : Int} (h0 : 0 ≤ m) (h : m < 128) : leb m.toNat = [m] := by rw [leb_small (by omega)]; simp; omega
theorem leb_pos (n : Nat) : 1 ≤ (leb n).length := by
  rw [leb]; split <;> simp
theorem U64.le10 {n : Int} (h : U64 n) : (leb n.toNat).length ≤ 10 := leb_len64 (by unfold U64 at h; omega)
theorem leb_bytes (n : Nat) : Bs (leb n) := by
  induction n using Nat.strongRecOn with
  | _ n ih =>
    by_cases h : n < 128
    · rw [leb_small h]; intro x hx; simp at hx; omega
    · rw [leb_big (by omega)]
      intro x hx
      rcases List.mem_cons.1 hx with rfl | hx
      · omega
      · exact ih (n / 128) (by omega) x hx
end Go.Proofs.Ytbpaoiajfjkmfaa
namespace Go.Proofs.Ytbpaoiajfjkmfaa
open Go.RowKit
set_option linter.unusedVariables false
set_option maxHeartbeats 400000 in
theorem size_any (n : Int) (w : World) (h0 : 0 ≤ n) (h1 : U64 n) :
    Calls Try.prog 46 #[.int .u64 n] w fun e w' => e = .returned (.int .i64 (leb n.toNat).length) ∧ w = w' := by
  have hten := h1.le10
  go_enter Try.func46, Try.ntmps46
  go_wp2
  go_loop [0, 3] (fun x s => ∃ (m : Int) (k : Nat), 0 ≤ m ∧ m ≤ n ∧ k ≤ 10 ∧ (leb n.toNat).length + 1 = k + (leb m.toNat).length ∧ x = .int .u64 m ∧ s = .int .i64 k) (fun x _ => (intOf x).toNat)
  case atStart => exact ⟨n, 1, h0, by omega, by omega, by omega, rfl, rfl⟩
  case round =>
    obtain ⟨m, k, hm0, hmn, hk, hl, rfl, rfl⟩ := hrel
    have hp := leb_pos m.toNat
    by_cases hm : m < 128
    · have H : k = (leb n.toNat).length := by rw [leb_int_small hm0 hm] at hl; simp at hl; omega
      have H' := Lib.hid H
      clear H
      go_wp2
      go_ret
      exact ⟨by rw [← H'.out]; rfl, rfl⟩
    · have hs := leb_int_len (m := m) (by omega)
      have hp2 := leb_pos (m / 128).toNat
      have hk' : k + 1 ≤ 10 := by omega
      have hl' : (leb n.toNat).length + 1 = k + 1 + (leb (m / 128).toNat).length := by omega
      have hl2 := Lib.hid hl'
      clear hl hs hp hp2 hl'
      go_wp2
      go_round
      case rel => exact ⟨m / 128, k + 1, by omega, by omega, hk', hl2.out, rfl, by go_num⟩
      case measure => simp [intOf]; omega
end Go.Proofs.Ytbpaoiajfjkmfaa
namespace Go.Proofs.Ytbpaoiajfjkmfaa
open Go.RowKit
set_option linter.unusedVariables false
theorem orB (m : Int) (h : 0 ≤ m) : bits .or .u8 (m % 256) 128 = m % 128 + 128 := by
  have : ∀ x : Fin 256, bits .or .u8 (x.val : Int) 128 = (x.val : Int) % 128 + 128 := by decide +kernel
  have h2 := this ⟨(m % 256).toNat, by omega⟩
  simp only [] at h2
  rw [show (((m % 256).toNat : Nat) : Int) = m % 256 by omega] at h2
  rw [h2]; omega
theorem infoU8 : (Try.prog.info? 5).map (fun i => (i.zero, i.size, i.bytes)) = some (some (.int .u8 0), 1, 1) := by kernel_rfl
set_option maxRecDepth 100000 in
set_option maxHeartbeats 1000000 in
theorem put_any (n : Int) (w : World) (h0 : 0 ≤ n) (h1 : U64 n) :
    Calls Try.prog 35 #[.int .u64 n] w (Made 5 .u8 w (leb n.toNat)) := by
  obtain ⟨i0, hi, hz0, hz1, hz2⟩ := info_parts infoU8
  have hten := h1.le10
  go_enter Try.func35, Try.ntmps35
  go_wp2_with (first
    | (go_at_call 46; refine (size_any _ _ h0 h1).mono ?_; rintro e w' ⟨rfl, rfl⟩)
    | (at_make; refine wpList_make_own _ rfl _ _ 46 rfl w.heap.size 5 i0 (.int .u8 0) 1 Try.underlying46 hi hz0 hz1 .i64 .i64 _ (leb n.toNat).length rfl rfl rfl (by rw [hz2]; omega) (by unfold maxLen; omega) (Nat.le_refl _) ?_))
  intro w1 hown hgrow
  have hb : Below w.heap.size w w1 := (Below.refl _ _).grown hgrow (Nat.le_refl _) (by simp)
  clear hgrow
  go_wp2
  go_loopw [0, 3] (fun x v wr => ∃ (m : Int) (pre : List Int), 0 ≤ m ∧ m ≤ n ∧ Hid (leb n.toNat = pre ++ leb m.toNat) ∧ x = .int .u64 m ∧ wr.ownsRow w.heap.size 5 1 v pre.length (nums .u8 pre) ∧ Below w.heap.size w wr) (fun x _ _ => (intOf x).toNat)
  case atStart => exact ⟨n, [], h0, by omega, Lib.hid rfl, rfl, hown, hb⟩
  case round =>
    obtain ⟨m, pre, hm0, hmn, hl, rfl, hown, hb⟩ := hrel
    have hpl : pre.length ≤ 10 := by have := hl.out; rw [this] at hten; simp at hten; omega
    by_cases hm : m < 128
    · go_wp2_with (first
        | (at_builtin; refine wpList_append1 _ rfl _ _ 46 rfl w 5 i0 (.int .u8 0) 1 Try.underlying46 hi hz0 hz1 hz2 rfl .u8 m _ _ hown hb rfl rfl (by omega) (by omega) ?_; intro v' w' hown' hb'))
      go_ret
      have e : leb n.toNat = pre ++ [m] := by rw [hl.out, leb_int_small hm0 hm]
      exact ⟨_, rfl, by rw [e]; exact hown', hb'⟩
    · have e1 := orB m hm0
      go_wp2_with (first
        | (at_builtin; refine wpList_append1 _ rfl _ _ 46 rfl w 5 i0 (.int .u8 0) 1 Try.underlying46 hi hz0 hz1 hz2 rfl .u8 (m % 128 + 128) _ _ hown hb rfl rfl (by omega) (by omega) ?_; intro v' w' hown' hb'))
      go_roundw
      case rel => exact ⟨m / 128, pre ++ [m % 128 + 128], by omega, by omega, Lib.hid (by rw [hl.out, leb_int (by omega)]; simp), rfl, hown', hb'⟩
      case measure => simp [intOf]; omega
end Go.Proofs.Ytbpaoiajfjkmfaa
namespace Go.Proofs.Ytbpaoiajfjkmfaa
set_option linter.unusedVariables false
theorem u64_wrap (n : Int) : IntKind.u64.wrap n = n % 18446744073709551616 := IntKind.wrap_u64 n
end Go.Proofs.Ytbpaoiajfjkmfaa
namespace Go.Proofs.Ytbpaoiajfjkmfaa
open Go.RowKit
set_option linter.unusedVariables false
theorem Bs.drop {l : List Int} (h : Bs l) (n : Nat) : Bs (l.drop n) := fun x hx => h x (List.mem_of_mem_drop hx)
end Go.Proofs.Ytbpaoiajfjkmfaa
namespace Go.Proofs.Ytbpaoiajfjkmfaa
open Go.RowKit
set_option linter.unusedVariables false
theorem clone_any (A : Option Addr) (l : List Int) (n c : Nat) (hn : n = l.length) (B : Nat) (w : World) (hl : l.length ≤ 140737488355328) (hs : Sees .u8 B w A l) :
    Calls Try.prog 64 #[.slice A n c] w (Made 5 .u8 w l) := by
  obtain ⟨i0, hi, hz0, hz1, hz2⟩ := info_parts infoU8
  subst hn
  cases A with
  | none =>
    have hl0 : l = [] := by
      rcases hs with h | ⟨b, off, h, _⟩
      · exact h
      · cases h
    subst hl0
    have hq := fun W => Lib.run_eql_slice_nil_nil (P := Try.prog) W (t := 46) (e := 5) 0 c Try.underlying46
    go_enter Try.func64, Try.ntmps64
    go_wp2
    go_ret
    exact ⟨_, rfl, ⟨rfl, .inl ⟨rfl, rfl⟩⟩, Below.refl _ _⟩
  | some ad =>
    have hq := fun W => Lib.run_eql_slice_some_nil (P := Try.prog) W (t := 46) (e := 5) ad l.length c Try.underlying46
    have hB : Below w.heap.size w (w.alloc (.cells #[] 5)) := (Below.refl _ _).alloc (Nat.le_refl _) _
    have hs' : Sees .u8 B (w.alloc (.cells #[] 5)) (some ad) l := by
      rcases hs with h | ⟨b, off, h, h2, h3⟩
      · exact .inl h
      · by_cases h0 : l = []
        · exact .inl h0
        · have hlt := World.block_lt_of_cell? w _ (h3 0 (List.length_pos_iff.2 h0))
          exact .inr ⟨b, off, h, h2, fun i hi => (hB.cell (p := ⟨b, off + i, none⟩) hlt).trans (h3 i hi)⟩
    have hl' := Lib.hid hl
    go_enter Try.func64, Try.ntmps64
    go_wp2_with (at_builtin; refine wpList_append_foot _ rfl (.tmp 5) (.tmp 6) 46 rfl 5 i0 (.int .u8 0) 1 Try.underlying46 hi hz0 hz1 hz2 rfl .u8 _ [] (World.ownsRow_made w #[] 0 (Nat.zero_le _) (by decide) (by simp)) B (some ad) l hs' l.length c rfl rfl rfl (by have := hl'.out; simp [maxLen]; omega) (by have := hl'.out; simp; omega) ?_; intro v' w' hown hgrow hblk; simp only [List.nil_append] at hown)
    go_ret
    have hown' : w'.ownsRow w.heap.size 5 1 v' l.length (nums .u8 l) := by
      refine ⟨hown.1, ?_⟩
      rcases hown.2 with h | ⟨g, cap, cur, hv, _, r⟩
      · exact .inl h
      · refine .inr ⟨g, cap, cur, hv, ?_, r⟩
        subst hv
        rcases hblk with h | h <;> simp [Value.ownBlock] at h <;> omega
    exact ⟨v', rfl, hown', hB.grown hgrow hB.size (by intro k hk; simp [Value.ownBlock] at hk; omega)⟩
def Pn (w : World) (g : Nat) (F : List Nat) (l : List Int) : Prop :=
  ∃ v, Holds w g 78 #[v] ∧ w.ownsRow 0 5 1 v l.length (nums .u8 l) ∧ g ∈ F ∧ (∀ b, v.ownBlock = some b → b ∈ F ∧ b ≠ g) ∧ ∀ x ∈ F, x < w.heap.size
def Turns (F F' : List Nat) (w w' : World) : Prop := BelowE F w.heap.size w w' ∧ ∀ x ∈ F', x ∈ F ∨ w.heap.size ≤ x
def Writes (g : Nat) (F : List Nat) (l : List Int) (w : World) (e : Ending) (w' : World) : Prop := e = .returned (.tuple #[]) ∧ ∃ F', Pn w' g F' l ∧ Turns F F' w w'
theorem Turns.trans {F F' F'' : List Nat} {w w' w'' : World} (h : Turns F F' w w') (k : Turns F' F'' w' w'') : Turns F F'' w w'' := by
  refine ⟨h.1.trans ((k.1.mono h.1.size).less ?_), ?_⟩
  · intro x hx hl
    rcases h.2 x hx with h1 | h1
    · exact h1
    · omega
  · intro x hx
    rcases k.2 x hx with h1 | h1
    · exact h.2 x h1
    · right; have := h.1.size; omega
theorem BelowE.toBelow {X : List Nat} {B : Nat} {w w' : World} (h : BelowE X B w w') (hx : ∀ x ∈ X, B ≤ x) : Below B w w' :=
  (h.less (Y := []) (fun x hm hl => absurd (hx x hm) (by omega))).none
theorem Pn.below {w w' : World} {g : Nat} {F : List Nat} {l : List Int} (h : Pn w g F l) (hb : Below w.heap.size w w') : Pn w' g F l := by
  obtain ⟨v, h1, h2, h3, h4, h5⟩ := h
  refine ⟨v, h1.below hb h1.lt, ?_, h3, h4, fun x hx => Nat.lt_of_lt_of_le (h5 x hx) hb.size⟩
  refine ⟨h2.1, ?_⟩
  rcases h2.2 with h | ⟨g', cap, cur, hv, hg, hh, r⟩
  · exact .inl h
  · exact .inr ⟨g', cap, cur, hv, hg, (hb.block g' (Array.getElem?_eq_some_iff.1 hh).1).trans hh, r⟩
theorem Pn.belowE {w w' : World} {X : List Nat} {g : Nat} {F : List Nat} {l : List Int} (h : Pn w g F l) (hb : BelowE X w.heap.size w w') (hx : ∀ x ∈ F, x ∉ X) : Pn w' g F l := by
  obtain ⟨v, h1, h2, h3, h4, h5⟩ := h
  refine ⟨v, h1.belowE hb h1.lt (hx g h3), ?_, h3, h4, fun x hx => Nat.lt_of_lt_of_le (h5 x hx) hb.size⟩
  refine ⟨h2.1, ?_⟩
  rcases h2.2 with h | ⟨g', cap, cur, hv, hg, hh, r⟩
  · exact .inl h
  · exact .inr ⟨g', cap, cur, hv, hg, (hb.block g' (Array.getElem?_eq_some_iff.1 hh).1 (hx g' (h4 g' (by rw [hv]; rfl)).1)).trans hh, r⟩
theorem pput_any (g : Nat) (F : List Nat) (l : List Int) (A : Option Addr) (r : List Int) (n c : Nat) (hn : n = r.length) (B : Nat) (w : World) (h : Pn w g F l) (hs : Sees .u8 B w A r) (hl : l.length + r.length ≤ 140737488355328) :
    Calls Try.prog 58 #[.pointer (some ⟨g, 0, none⟩), .slice A n c] w (Writes g F (l ++ r) w) := by
  obtain ⟨i0, hi, hz0, hz1, hz2⟩ := info_parts infoU8
  subst hn
  obtain ⟨v, h1, h2, h3, h4, h5⟩ := h
  have c0 := h1.cell 0
  simp at c0
  have h1' := Lib.hid h1
  have hl' := Lib.hid hl
  clear h1 hl
  go_enter Try.func58, Try.ntmps58
  go_wp2_with (at_builtin; (refine wpList_append_foot _ rfl (.tmp 10) (.tmp 11) 46 rfl 5 i0 (.int .u8 0) 1 Try.underlying46 hi hz0 hz1 hz2 rfl .u8 v l h2 B A r hs r.length c rfl rfl rfl (by have := hl'.out; simp [maxLen]; omega) (by have := hl'.out; omega) ?_; intro v' w' hown hgrow hblk; have lg := h1'.out.lt; have kg : Holds w' g 78 #[v] := (hgrow.block g lg (fun e => (h4 g e.symm).2 rfl)).trans h1'.out; have k0 := kg.cell 0; have kf := kg.free 0; simp at k0; obtain ⟨aa, cc, rfl, -, -⟩ := sees_own hown))
  go_end0
  obtain ⟨v', hv'⟩ : ∃ v', v' = Value.slice aa (l ++ r).length cc := ⟨_, rfl⟩
  have hv2 : Value.slice aa (l.length + r.length) cc = v' := by rw [hv', List.length_append]
  rw [← hv'] at hown hblk
  rw [hv2]
  clear hv' hv2
  refine ⟨rfl, g :: v'.ownBlock.toList, ⟨v', ?_, ?_, by simp, ?_, ?_⟩, ?_, ?_⟩
  · have := kg.set 0 v'
    simpa using this
  · refine ⟨hown.1, ?_⟩
    rcases hown.2 with h | ⟨g', cap, cur, hv, hg, hh, r⟩
    · exact .inl h
    · refine .inr ⟨g', cap, cur, hv, hg, ?_, r⟩
      rw [Below.heap_setCell _ _ _ _ ?_]
      · exact hh
      · show g' ≠ g
        rcases hblk with h5 | h5
        · exact (h4 g' (by rw [← h5, hv]; rfl)).2
        · rw [hv] at h5; simp [Value.ownBlock] at h5; omega
  · intro b hb
    rw [hb]
    refine ⟨by simp, ?_⟩
    rcases hblk with h5 | h5
    · exact (h4 b (by rw [← h5, hb])).2
    · rw [hb] at h5; simp at h5; omega
  · intro x hx
    have hz : (w'.setCell ⟨g, 0, none⟩ v').heap.size = w'.heap.size := by simp [World.setCell]
    rw [hz]
    simp at hx
    rcases hx with rfl | hx
    · exact kg.lt
    · exact (hown.lt x hx).2
  · have hb0 : BelowE F w.heap.size w w' := (BelowE.refl _ _ _).grown hgrow (Nat.le_refl _) (fun k hk _ => (h4 k hk).1)
    exact hb0.setIn (p := ⟨g, 0, none⟩) h3 _
  · intro x hx
    simp at hx
    rcases hx with rfl | hx
    · exact .inl h3
    · rcases hblk with h5 | h5
      · exact .inl (h4 x (by rw [← h5]; exact hx)).1
      · rw [hx] at h5; simp at h5; right; omega
end Go.Proofs.Ytbpaoiajfjkmfaa
namespace Go.Proofs.Ytbpaoiajfjkmfaa
open Go.RowKit
set_option linter.unusedVariables false
def NewPen (w : World) (e : Ending) (w' : World) : Prop := ∃ g F, e = .returned (.pointer (some ⟨g, 0, none⟩)) ∧ Pn w' g F [] ∧ Below w.heap.size w w' ∧ ∀ x ∈ F, w.heap.size ≤ x
theorem new_any (w : World) : Calls Try.prog 47 #[] w (NewPen w) := by
  go_enter Try.func47, Try.ntmps47
  go_wp2
  go_ret
  exact ⟨w.heap.size, [w.heap.size], rfl, ⟨.slice none 0 0, Holds.new _ _ _, ⟨rfl, .inl ⟨rfl, rfl⟩⟩, by simp, by simp [Value.ownBlock], by simp⟩, (Below.refl _ _).alloc (Nat.le_refl _) _, by simp⟩
theorem Writes.after {g : Nat} {F : List Nat} {l : List Int} {w w1 w' : World} {e : Ending} (hb : Below w.heap.size w w1) (h : Writes g F l w1 e w') : Writes g F l w e w' := by
  obtain ⟨h0, F', h1, h2, h3⟩ := h
  refine ⟨h0, F', h1, (BelowE.of hb).trans (h2.mono hb.size), fun x hx => ?_⟩
  rcases h3 x hx with h | h
  · exact .inl h
  · right; have := hb.size; omega
theorem Pn.ne {w : World} {g : Nat} {F : List Nat} {l : List Int} (h : Pn w g F l) : g < w.heap.size := by
  obtain ⟨v, h1, _⟩ := h; exact h1.lt
theorem pu_any (g : Nat) (F : List Nat) (l : List Int) (n : Int) (w : World) (h : Pn w g F l) (h0 : 0 ≤ n) (hU : U64 n) (hl : l.length ≤ 100000000000000) :
    Calls Try.prog 48 #[.pointer (some ⟨g, 0, none⟩), .int .u64 n] w (Writes g F (l ++ leb n.toNat) w) := by
  have hten := hU.le10
  have hput := Lib.hid (fun (A : Option Addr) (c : Nat) (w' : World) (hb : Below w.heap.size w w') (hs : Sees .u8 w'.heap.size w' A (leb n.toNat)) => pput_any g F l A (leb n.toNat) _ c rfl w'.heap.size w' (h.below hb) hs (by omega))
  clear h hl
  go_enter Try.func48, Try.ntmps48
  go_wp2_with fail
  refine (put_any n _ h0 hU).mono ?_
  intro e w1 h1
  obtain ⟨a1, c1, rfl, hs1, hb1⟩ := h1.open (leb n.toNat).length rfl
  clear h1
  go_wp2_with fail
  refine (hput.out a1 c1 w1 hb1 hs1).mono ?_
  rintro e w2 hw
  have hw' := Lib.hid hw
  obtain ⟨rfl, -⟩ := hw
  go_wp2
  go_end0
  exact Writes.after hb1 hw'.out
theorem ptext_any (g : Nat) (F : List Nat) (l : List Int) (s : ByteArray) (w : World) (h : Pn w g F l) (hs : s.size ≤ 140737488351232) (hl : l.length ≤ 100000000000000) (hls : l.length + s.size ≤ 140737488355000) :
    Calls Try.prog 49 #[.pointer (some ⟨g, 0, none⟩), .string s] w (Writes g F (l ++ (leb s.size ++ codes s)) w) := by
  have hU : U64 (s.size : Int) := by unfold U64; omega
  have hten := hU.le10
  have hput := Lib.hid (pu_any g F l (s.size : Int) w h (by omega) hU hl)
  have hlen : (codes s).length = s.size := codes_length s
  have htext := Lib.hid (fun (F' : List Nat) (A : Option Addr) (c : Nat) (w1 w2 : World) (hp : Pn w1 g F' (l ++ leb s.size)) (hb : Below w1.heap.size w1 w2) (hse : Sees .u8 w2.heap.size w2 A (codes s)) => pput_any g F' (l ++ leb s.size) A (codes s) s.size c hlen.symm w2.heap.size w2 (hp.below hb) hse (by simp at hten ⊢; omega))
  have hcv := Lib.hid (fun W : World => run_bytes_sees (P := Try.prog) W 9 46 5 s Try.underlying9 Try.underlying46 Try.underlying5)
  have hsz : s.size ≤ 9223372036854775807 := by omega
  clear h hl hten hlen hls hs hU
  go_enter Try.func49, Try.ntmps49
  go_wp2_with fail
  refine hput.out.mono ?_
  rintro e w1 ⟨rfl, F1, hp1, ht1⟩
  simp only [Int.toNat_natCast] at hp1
  obtain ⟨c, w2, hrun, hc, hse, hb, hz⟩ := hcv.out w1
  have hz' := Lib.hid hz
  clear hz
  go_wp2_with fail
  refine (htext.out F1 _ c w1 w2 hp1 hb hse).mono ?_
  rintro e w3 ⟨rfl, F2, hp2, ht2⟩
  go_wp2
  go_end0
  refine ⟨rfl, F2, by rw [← List.append_assoc]; exact hp2, ht1.trans ⟨(BelowE.of hb).trans (ht2.1.mono hb.size), fun x hx => ?_⟩⟩
  rcases ht2.2 x hx with h | h
  · exact .inl h
  · right; have := hb.size; omega
theorem pbytes_any (g : Nat) (F : List Nat) (l : List Int) (w : World) (h : Pn w g F l) (hl : l.length ≤ 140737488355328) :
    Calls Try.prog 51 #[.pointer (some ⟨g, 0, none⟩)] w (Made 5 .u8 w l) := by
  obtain ⟨v, h1, h2, _⟩ := h
  have c0 := h1.cell 0
  simp at c0
  obtain ⟨a, c, rfl, _, hs⟩ := sees_own h2
  have hcl := Lib.hid (clone_any a l l.length c rfl w.heap.size w hl hs)
  clear h1 h2 hs hl
  go_enter Try.func51, Try.ntmps51
  go_wp2_with fail
  refine hcl.out.mono ?_
  rintro e w1 hm
  have hm' := Lib.hid hm
  obtain ⟨v, rfl, -⟩ := hm
  go_wp2
  go_ret
  exact hm'.out
end Go.Proofs.Ytbpaoiajfjkmfaa
namespace Go.Proofs.Ytbpaoiajfjkmfaa
open Go.RowKit
set_option linter.unusedVariables false
set_option linter.unusedSimpArgs false
def keyL (k : Int) (f : ByteArray) (x : List Int) : List Int := leb (max k 0).toNat ++ ((leb f.size ++ codes f) ++ (leb x.length ++ x))
theorem strOf_size_codes {x : List Int} (h : Bs x) : leb (strOfNums x).size ++ codes (strOfNums x) = leb x.length ++ x := by
  rw [codes_str h, ← codes_length, codes_str h]
theorem Turns.allw {W w w' : World} {F F' : List Nat} (h : Turns F F' w w') (hb : Below W.heap.size W w) (hF : ∀ x ∈ F, W.heap.size ≤ x) : Below W.heap.size W w' ∧ ∀ x ∈ F', W.heap.size ≤ x :=
  ⟨hb.trans ((h.1.mono hb.size).toBelow hF), fun x hx => (h.2 x hx).elim (hF x) (fun h => Nat.le_trans hb.size h)⟩
set_option maxHeartbeats 2000000 in
theorem key_any (k : Int) (hk : (Lit.int .i64 k).wf = true) (f s : ByteArray) (hf : f.size ≤ 100000) (hs : s.size ≤ 100000) (w : World) :
    Calls Try.prog 36 #[.int .i64 k, .string f, .string s] w (Made 5 .u8 w (keyL k f (normS (codes s)))) := by
  have hk' := i64_wf hk
  have hn := Lib.hid (fun W => norm_any s hs W)
  have hT : (normS (codes s)).length ≤ 100000 := by have := normS_len (codes s); rw [codes_length] at this; omega
  have hTb : Bs (normS (codes s)) := norm_bs (parts_bs _ (Nat.le_refl _) (codes_bs s)) false
  have hm0 : 0 ≤ max k 0 := by omega
  have hm1 : U64 (max k 0) := by unfold U64; omega
  have h10 := hm1.le10
  have h10f := (show U64 (f.size : Int) by unfold U64; omega).le10
  simp only [Int.toNat_natCast] at h10f
  have hfl := codes_length f
  have hsz : (strOfNums (normS (codes s))).size ≤ 100000 := by rw [strOfNums_size]; exact hT
  have hx := Lib.hid (strOf_size_codes hTb)
  have hwr : IntKind.u64.wrap (max k 0) = max k 0 := wrap_u64_in hm0 hm1.2
  have hmax : Hid (max k 0 = max k 0) := Lib.hid rfl
  unfold keyL
  generalize normS (codes s) = T at *
  generalize strOfNums T = sT at *
  have p1 : ∀ g F W, Pn W g F [] → Calls Try.prog 48 #[.pointer (some ⟨g, 0, none⟩), .int .u64 (max k 0)] W (Writes g F (leb (max k 0).toNat) W) := fun g F W h => pu_any g F [] _ W h hm0 hm1 (by simp)
  have p2 : ∀ g F W, Pn W g F (leb (max k 0).toNat) → Calls Try.prog 49 #[.pointer (some ⟨g, 0, none⟩), .string f] W (Writes g F (leb (max k 0).toNat ++ (leb f.size ++ codes f)) W) := fun g F W h => ptext_any g F _ f W h (by omega) (by omega) (by omega)
  have p3 : ∀ g F W, Pn W g F (leb (max k 0).toNat ++ (leb f.size ++ codes f)) → Calls Try.prog 49 #[.pointer (some ⟨g, 0, none⟩), .string sT] W (Writes g F (leb (max k 0).toNat ++ ((leb f.size ++ codes f) ++ (leb T.length ++ T))) W) := fun g F W h => by
    have := ptext_any g F _ sT W h (by omega) (by simp; omega) (by simp; omega)
    rw [hx.out, List.append_assoc] at this
    exact this
  have p4 : ∀ g F W, Pn W g F (leb (max k 0).toNat ++ ((leb f.size ++ codes f) ++ (leb T.length ++ T))) → Calls Try.prog 51 #[.pointer (some ⟨g, 0, none⟩)] W (Made 5 .u8 W (leb (max k 0).toNat ++ ((leb f.size ++ codes f) ++ (leb T.length ++ T)))) := fun g F W h => pbytes_any g F _ W h (by
    have := (show U64 (T.length : Int) by unfold U64; omega).le10
    simp only [Int.toNat_natCast] at this
    simp; omega)
  have p1' := Lib.hid p1
  have p2' := Lib.hid p2
  have p3' := Lib.hid p3
  have p4' := Lib.hid p4
  clear p1 p2 p3 p4 h10 h10f hfl hsz hx hT hTb hf hs hk
  generalize leb (max k 0).toNat ++ ((leb f.size ++ codes f) ++ (leb T.length ++ T)) = L3 at *
  generalize leb (max k 0).toNat ++ (leb f.size ++ codes f) = L2 at *
  generalize leb (max k 0).toNat = L1 at *
  go_enter Try.func36, Try.ntmps36
  go_wp2_with fail
  refine (new_any w).mono ?_
  rintro e w1 ⟨g, F, rfl, q0, b0, f0⟩
  have q0' := Lib.hid q0
  have b0' := Lib.hid b0
  have f0' := Lib.hid f0
  clear q0 b0 f0
  go_wp2_with fail
  refine (p1'.out g F w1 q0'.out).mono ?_
  rintro e w2 ⟨rfl, F1, q1, t1⟩
  obtain ⟨b1, f1⟩ := t1.allw b0'.out f0'.out
  have q1' := Lib.hid q1
  have b1' := Lib.hid b1
  have f1' := Lib.hid f1
  clear q1 b1 f1 t1 q0' b0' f0' p1'
  go_wp2_with fail
  refine (p2'.out g F1 w2 q1'.out).mono ?_
  rintro e w3 ⟨rfl, F2, q2, t2⟩
  obtain ⟨b2, f2⟩ := t2.allw b1'.out f1'.out
  have q2' := Lib.hid q2
  have b2' := Lib.hid b2
  have f2' := Lib.hid f2
  clear q2 b2 f2 t2 q1' b1' f1' p2'
  go_wp2_with fail
  refine (hn.out w3).mono ?_
  rintro e w4 ⟨rfl, b3⟩
  have q3' := Lib.hid (q2'.out.below b3)
  have b3' := Lib.hid (b2'.out.trans (b3.mono b2'.out.size))
  clear b3 q2' b2' hn
  go_wp2_with fail
  refine (p3'.out g F2 w4 q3'.out).mono ?_
  rintro e w5 ⟨rfl, F3, q4, t4⟩
  obtain ⟨b4, f4⟩ := t4.allw b3'.out f2'.out
  have q4' := Lib.hid q4
  have b4' := Lib.hid b4
  clear q4 b4 f4 t4 q3' b3' f2' p3'
  go_wp2_with fail
  refine (p4'.out g F3 w5 q4'.out).mono ?_
  rintro e w6 h6
  have h6' := Lib.hid h6
  obtain ⟨v, rfl, -, -⟩ := h6
  go_wp2
  go_ret
  obtain ⟨v', e1, o1, bb⟩ := h6'.out
  exact ⟨v', e1, own_from o1 (fun q hq => Nat.le_trans b4'.out.size ((o1.lt q hq).1)), b4'.out.trans (bb.mono b4'.out.size)⟩
end Go.Proofs.Ytbpaoiajfjkmfaa
namespace Go.Proofs.Ytbpaoiajfjkmfaa
set_option linter.unusedVariables false
def fstep (s c : Int) : Int := (((s.toNat ^^^ c.toNat) * 1099511628211 % 18446744073709551616 : Nat) : Int)
def fsum (s : Int) (l : List Int) : Int := l.foldl fstep s
def InU (s : Int) : Prop := 0 ≤ s ∧ s ≤ 18446744073709551615
theorem fstep_in (s c : Int) : InU (fstep s c) := by
  unfold InU fstep
  have := Nat.mod_lt ((s.toNat ^^^ c.toNat) * 1099511628211) (show 0 < 18446744073709551616 by decide)
  omega
theorem xor_lt64 {a b : Nat} (ha : a < 18446744073709551616) (hb : b < 18446744073709551616) : a ^^^ b < 18446744073709551616 :=
  Nat.xor_lt_two_pow (n := 64) ha hb
theorem undo_mul (x : Nat) (hx : x < 18446744073709551616) : (x * 1099511628211 % 18446744073709551616) * 14886173955864302971 % 18446744073709551616 = x := by
  rw [Nat.mod_mul_mod, Nat.mul_assoc, show 1099511628211 * 14886173955864302971 = 18446744073709551616 * 887285111055 + 1 from by decide]
  rw [Nat.mul_add, Nat.mul_one, Nat.mul_left_comm, Nat.mul_add_mod]
  exact Nat.mod_eq_of_lt hx
theorem fsum_in {s : Int} (hs : InU s) (l : List Int) : InU (fsum s l) := by
  unfold fsum
  induction l generalizing s with
  | nil => exact hs
  | cons c l ih => exact ih (fstep_in s c)
theorem fsum_snoc (s : Int) (l : List Int) (c : Int) : fsum s (l ++ [c]) = fstep (fsum s l) c := by simp [fsum]
theorem fstep_inj {t x y : Int} (ht : InU t) (hx : InU x) (hy : InU y) (h : fstep t x = fstep t y) : x = y := by
  unfold InU at *
  unfold fstep at h
  have h1 : (t.toNat ^^^ x.toNat) * 1099511628211 % 18446744073709551616 = (t.toNat ^^^ y.toNat) * 1099511628211 % 18446744073709551616 := Int.ofNat.inj h
  have h2 := undo_mul (t.toNat ^^^ x.toNat) (xor_lt64 (by omega) (by omega))
  rw [h1, undo_mul (t.toNat ^^^ y.toNat) (xor_lt64 (by omega) (by omega))] at h2
  have h3 := congrArg (fun z => t.toNat ^^^ z) h2
  simp only [← Nat.xor_assoc, Nat.xor_self, Nat.zero_xor] at h3
  omega
end Go.Proofs.Ytbpaoiajfjkmfaa
namespace Go.Proofs.Ytbpaoiajfjkmfaa
open Go.RowKit
set_option linter.unusedVariables false
theorem fstep_walk {s c : Int} (hs : InU s) (hc : 0 ≤ c ∧ c ≤ 255) : IntKind.u64.wrap (bits .xor .u64 s c * 1099511628211) = fstep s c := by
  unfold InU at hs
  obtain ⟨a, rfl⟩ := Int.eq_ofNat_of_zero_le hs.1
  obtain ⟨b, rfl⟩ := Int.eq_ofNat_of_zero_le hc.1
  rw [bits_xor_u64_nat a b (by omega) (by omega), u64_wrap]
  unfold fstep
  rw [Int.toNat_natCast, Int.toNat_natCast, Int.natCast_emod, Int.natCast_mul]
  rfl
theorem getD_take_snoc {l : List Int} {k : Nat} (hk : k < l.length) : l.take (k + 1) = l.take k ++ [l.getD k 0] := by
  rw [List.take_succ_eq_append_getElem hk]; simp [List.getD, hk]
set_option maxHeartbeats 400000 in
theorem more_any (s : Int) (hs : InU s) (a : Option Addr) (l : List Int) (n cap : Nat) (hn : n = l.length) (B : Nat) (w : World) (hl : l.length ≤ maxLen) (hb : Bs l) (hc : Sees .u8 B w a l) :
    Calls Try.prog 33 #[.int .u64 s, .slice a n cap] w fun e w' => e = .returned (.int .u64 (fsum s l)) ∧ w = w' := by
  subst hn
  unfold maxLen at hl
  rcases hc with rfl | ⟨b, off, rfl, hB, hc⟩
  · go_enter Try.func33, Try.ntmps33
    go_wp2
    refine wp_loop_rounds 1 ?_
    rw [rounds_succ]
    go_wp2
    go_ret
    exact ⟨rfl, rfl⟩
  · go_enter Try.func33, Try.ntmps33
    go_wp2
    go_loop [0, 9] (fun x y => ∃ (k : Nat) (t : Int), k ≤ l.length ∧ Hid (t = fsum s (l.take k)) ∧ InU t ∧ x = .int .u64 t ∧ y = .int .i64 k) (fun _ y => l.length - (intOf y).toNat)
    case atStart => exact ⟨0, s, by omega, Lib.hid rfl, hs, rfl, rfl⟩
    case round =>
      obtain ⟨k, t, hk, ht, htu, rfl, rfl⟩ := hrel
      by_cases hlt : k < l.length
      · have hcell := hc k hlt
        have hr := hb.at hlt
        have hd := getD_take_snoc hlt
        generalize l.getD k 0 = c at *
        clear hc
        have e1 := fstep_walk htu hr
        have hfin : Hid (fstep t c = fsum s (l.take (k + 1))) := Lib.hid (by rw [hd, fsum_snoc, ← ht.out])
        clear hd
        go_wp2
        go_round
        case rel => exact ⟨k + 1, fstep t c, by omega, hfin, fstep_in _ _, rfl, by go_num⟩
        case measure => simp [intOf]; omega
      · have hfin : Hid (t = fsum s l) := Lib.hid (by rw [ht.out, List.take_of_length_le (by omega)])
        go_wp2
        go_ret
        exact ⟨by rw [← hfin.out]; rfl, rfl⟩
def fstart : Int := 14695981039346656037
theorem fstart_in : InU fstart := by unfold InU fstart; omega
theorem sum_any (a : Option Addr) (l : List Int) (n cap : Nat) (hn : n = l.length) (B : Nat) (w : World) (hl : l.length ≤ maxLen) (hb : Bs l) (hc : Sees .u8 B w a l) :
    Calls Try.prog 34 #[.slice a n cap] w fun e w' => e = .returned (.int .u64 (fsum fstart l)) ∧ w = w' := by
  subst hn
  have hm := Lib.hid (more_any fstart fstart_in a l l.length cap rfl B w hl hb hc)
  go_enter Try.func34, Try.ntmps34
  go_wp2_with (go_at_call 33; refine hm.out.mono ?_; rintro e w' ⟨rfl, rfl⟩)
  go_ret
  exact ⟨rfl, rfl⟩
end Go.Proofs.Ytbpaoiajfjkmfaa
namespace Go.Proofs.Ytbpaoiajfjkmfaa
open Go.RowKit Go.ChangeShapes Go.WideShapes Go.Deep
set_option linter.unusedVariables false
def Reach {H : Type} (P : Program) (t : TypeId) (d : DataW H) : Prop := ∀ n ∈ d.weights P t, n ≤ 140737488351232
theorem reach_each {H : Type} {P : Program} {ts : List TypeId} {ds : List (DataW H)} (h : (DataW.weightsEach P ts ds).all (· ≤ reachBytes) = true) {j : Nat} {t : TypeId} {d : DataW H} (ht : ts[j]? = some t) (hd : ds[j]? = some d) : Reach P t d := by
  intro n hn
  have := List.all_eq_true.1 h n (DataW.weights_mem_each ht hd n hn)
  have h' : n ≤ reachBytes := of_decide_eq_true this
  simpa [reachBytes] using h'
theorem weightsAll_mem {H : Type} {P : Program} {e : TypeId} : ∀ {l : List (DataW H)} {d : DataW H}, d ∈ l → ∀ n ∈ d.weights P e, n ∈ DataW.weightsAll P e l
  | x :: r, d, hd, n, hn => by
    unfold DataW.weightsAll
    rcases List.mem_cons.1 hd with rfl | hd
    · exact List.mem_append_left _ hn
    · exact List.mem_append_right _ (weightsAll_mem hd n hn)
theorem weights_slice {H : Type} {P : Program} {t e : TypeId} {el sp : List (DataW H)} (ht : P.underlying t = some (.slice e)) (h : Reach P t (.slice el sp)) : (el.length + sp.length) * P.bytesOf e ≤ 140737488351232 ∧ ∀ d ∈ el, Reach P e d := by
  unfold Reach at h
  unfold DataW.weights at h
  rw [ht] at h
  refine ⟨h _ (by simp), fun d hd n hn => h n ?_⟩
  exact List.mem_cons_of_mem _ (List.mem_append_left _ (weightsAll_mem hd n hn))
theorem weights_agg {H : Type} {P : Program} {t : TypeId} {fs : Array Field} {ps : List (DataW H)} (ht : P.underlying t = some (.struct fs)) (h : Reach P t (.agg ps)) {j : Nat} {f : Field} {d : DataW H} (hj : fs[j]? = some f) (hd : ps[j]? = some d) : Reach P f.type d := by
  intro n hn
  unfold Reach at h
  unfold DataW.weights at h
  rw [ht] at h
  have h1 : (fs.toList.map (·.type))[j]? = some f.type := by simp [hj]
  exact h n (DataW.weights_mem_each h1 hd n hn)
theorem reach_string {H : Type} {P : Program} {t : TypeId} {s : ByteArray} (h : Reach (H := H) P t (.lit (.string s.data.toList))) : s.size ≤ 140737488351232 := by
  have := h s.data.toList.length (by simp [DataW.weights])
  simpa using this
end Go.Proofs.Ytbpaoiajfjkmfaa
namespace Go.Proofs.Ytbpaoiajfjkmfaa
open Go.RowKit
set_option linter.unusedVariables false
def SeesC (B : Nat) (w : World) (a : Option Addr) (cs : List Value) : Prop :=
  cs = [] ∨ ∃ b off, a = some ⟨b, off, none⟩ ∧ b < B ∧ ∀ i u, cs[i]? = some u → w.cell? ⟨b, off + i, none⟩ = some u
theorem SeesC.below {B : Nat} {w w' : World} {a : Option Addr} {cs : List Value} (h : SeesC B w a cs) (hb : Below B w w') : SeesC B w' a cs := by
  rcases h with h | ⟨b, off, rfl, hB, hc⟩
  · exact .inl h
  · exact .inr ⟨b, off, rfl, hB, fun i u hu => (hb.cell (p := ⟨b, off + i, none⟩) hB).trans (hc i u hu)⟩
theorem SeesC.mono {B B' : Nat} {w : World} {a : Option Addr} {cs : List Value} (h : SeesC B w a cs) (hb : B ≤ B') : SeesC B' w a cs := by
  rcases h with h | ⟨b, off, rfl, hB, hc⟩
  · exact .inl h
  · exact .inr ⟨b, off, rfl, by omega, hc⟩
theorem add_at (b off i : Nat) : (⟨b, off, none⟩ : Addr).add i = ⟨b, off + i, none⟩ := by unfold Addr.add; split <;> simp_all
theorem seesC_own {w : World} {base : Nat} {e : TypeId} {size : Nat} {v : Value} {n : Nat} {cs : List Value} (h : w.ownsRow base e size v n cs) :
    ∃ a cap, v = .slice a n cap ∧ n ≤ cap ∧ cap ≤ maxLen ∧ SeesC w.heap.size w a cs := by
  rcases h.2 with ⟨rfl, h0⟩ | ⟨g, cap, cur, rfl, _, hg, hc1, hc2, _⟩
  · subst h0
    have : cs = [] := List.eq_nil_of_length_eq_zero (by have := h.1; omega)
    exact ⟨none, 0, rfl, Nat.le_refl _, by simp, .inl this⟩
  · refine ⟨_, cap, rfl, hc1, hc2, .inr ⟨g, 0, rfl, (Array.getElem?_eq_some_iff.1 hg).1, fun i u hu => ?_⟩⟩
    have := h.cells (g := g) rfl i u hu
    rw [add_at] at this
    exact this
theorem seesC_lit (w : World) (e : TypeId) (cs : Array Value) (fr : Nat × Nat := (0, 0)) : SeesC (w.alloc (.cells cs e fr)).heap.size (w.alloc (.cells cs e fr)) (some ⟨w.heap.size, 0, none⟩) cs.toList := by
  refine .inr ⟨w.heap.size, 0, rfl, by simp, fun i u hu => ?_⟩
  rw [cell_of_row _ _ _ _ _ _ (heap_alloc_new w _)]
  simpa using hu
theorem flat_at {α : Type} {f : α → List Value} {k : Nat} (hk : ∀ x, (f x).length = k) : ∀ (l : List α) (i j : Nat), j < k → (l.flatMap f)[i * k + j]? = (l[i]?).bind fun x => (f x)[j]?
  | [], i, j, _ => by simp
  | x :: l, 0, j, hj => by simp [List.getElem?_append, hk, hj]
  | x :: l, i + 1, j, hj => by
    have ih := flat_at hk l i j hj
    rw [List.flatMap_cons, List.getElem?_append_right (by rw [hk, Nat.succ_mul]; omega), hk, show (i + 1) * k + j - k = i * k + j by rw [Nat.succ_mul]; omega, ih]
    simp
theorem flat_len {α : Type} {f : α → List Value} {k : Nat} (hk : ∀ x, (f x).length = k) : ∀ (l : List α), (l.flatMap f).length = l.length * k
  | [] => by simp
  | x :: l => by rw [List.flatMap_cons, List.length_append, flat_len hk l, hk, List.length_cons, Nat.succ_mul]; omega
theorem run_append_cellsB {P : Program} (w : World) (base : Nat) (t ty e : TypeId) (i : TypeInfo) (z : Value) (size bytes : Nat) (ht : P.underlying t = some (.slice e)) (hi : P.info? e = some i) (hz : i.zero = some z)
    (hsize : i.size = size) (hby : i.bytes = bytes) (hzs : z.cells.size = size) (hsz : 0 < size)
    (v : Value) (n : Nat) (xs : List Value) (hown : w.ownsRow base e size v n xs) (B : Nat) (A : Option Addr) (m c : Nat) (news : List Value) (hl : news.length = m * size) (hs : SeesC B w A news) (h1 : ∀ u ∈ news, u.oneCell' = true)
    (hn : n + m ≤ maxLen) (hby2 : (n + m) * bytes ≤ 140737488355328) (hbase : base ≤ w.heap.size) :
    ∃ v' w', (Builtin.append_ #[t, t] ty #[v, .slice A m c]).run P w = .ok v' w' ∧ w'.ownsRow base e size v' (n + m) (xs ++ news) ∧ w.grownBy w' v.ownBlock ∧ (v'.ownBlock = v.ownBlock ∨ v'.ownBlock = some w.heap.size) := by
  cases A with
  | none =>
    have hnews : news = [] := by
      rcases hs with h | ⟨b, off, h, _⟩
      · exact h
      · cases h
    subst hnews
    have hm : m = 0 := by
      cases m with
      | zero => rfl
      | succ m => rw [Nat.succ_mul] at hl; simp at hl; omega
    subst hm
    exact ⟨v, w, run_append_none w base t ty e i size ht hi v n xs hown c, by simpa using hown, World.grownBy.refl w _, .inl rfl⟩
  | some ad =>
    have hc : ∀ j u, news[j]? = some u → w.cell? (ad.add j) = some u := by
      rcases hs with rfl | ⟨b, off, h, _, hc⟩
      · intro j u hj; simp at hj
      · injection h with h; subst h; intro j u hj; rw [add_at]; exact hc j u hj
    obtain ⟨v', w', hrun, h2, h3, _, h5⟩ := run_append_own_at (P := P) w base t ty e i z size bytes ht hi hz hsize hby hzs hsz v n xs hown ad m c news hl hc h1 hn hby2 hbase
    exact ⟨v', w', hrun, h2, h3, h5⟩
theorem wpList_append_cellsB {P : Program} (w : World) {ops : Array Oper} {rest : List Oper} {o : Oper} {a : Act} {Q : Exit → Act → World → Prop}
    (hg : o.guard = none) (s x : Operand) (t : TypeId) (hop : o.op = Op.call { callee := Callee.builtin Builtin.append, args := #[s, x], argTypes := #[t, t] })
    (w0 : World) (e : TypeId) (i : TypeInfo) (z : Value) (size bytes : Nat) (ht : P.underlying t = some (.slice e)) (hi : P.info? e = some i) (hz : i.zero = some z)
    (hsize : i.size = size) (hby : i.bytes = bytes) (hzs : z.cells.size = size) (hsz : 0 < size)
    (v : Value) (n : Nat) (xs : List Value) (hown : w.ownsRow w0.heap.size e size v n xs) (hb : Below w0.heap.size w0 w) (B : Nat) (A : Option Addr) (m c : Nat) (news : List Value) (hl : news.length = m * size) (hs : SeesC B w A news) (h1 : ∀ u ∈ news, u.oneCell' = true)
    (hsv : a.eval s = v) (hx : a.eval x = .slice A m c) (hn : n + m ≤ maxLen) (hby2 : (n + m) * bytes ≤ 140737488355328)
    (hK : ∀ v' w', w'.ownsRow w0.heap.size e size v' (n + m) (xs ++ news) → Below w0.heap.size w0 w' → wpList P ops Q rest (a.put o.dst v') w') :
    wpList P ops Q (o :: rest) a w := by
  obtain ⟨v', w', hrun, g1, g2, g3⟩ := run_append_cellsB (P := P) w w0.heap.size t o.type e i z size bytes ht hi hz hsize hby hzs hsz v n xs hown B A m c news hl hs h1 hn hby2 hb.size
  refine wpList_plain hg fun K hK' => ?_
  unfold Oper.wp
  simp [execOp, hop, resolve, invoke, builtin, hsv, hx, hrun, Result.andThen]
  exact hK' _ _ (hK v' w' g1 (hb.grown g2 hb.size fun k hk => (hown.lt k hk).1))
end Go.Proofs.Ytbpaoiajfjkmfaa
namespace Go.Proofs.Ytbpaoiajfjkmfaa
open Go.RowKit
set_option linter.unusedVariables false
structure RO {α : Type} (f : α → List Value) (w : World) (a : Option Addr) (n c : Nat) (l : List α) : Prop where
  len : n = l.length
  cap : n ≤ c
  max : c ≤ maxLen
  sees : SeesC w.heap.size w a (l.flatMap f)
theorem RO.below {α : Type} {f : α → List Value} {w w' : World} {a : Option Addr} {n c : Nat} {l : List α} (h : RO f w a n c l) (hb : Below w.heap.size w w') : RO f w' a n c l := ⟨h.len, h.cap, h.max, (h.sees.below hb).mono hb.size⟩
theorem RO.drewN {α : Type} {f : α → List Value} {w : World} {a : Option Addr} {n c : Nat} {l : List α} (h : RO f w a n c l) (m : Nat) : RO f (w.drewN m) a n c l := ⟨h.len, h.cap, h.max, h.sees⟩
theorem RO.nil {α : Type} {f : α → List Value} (w : World) : RO f w none 0 0 [] := ⟨rfl, Nat.le_refl _, by simp, .inl rfl⟩
theorem RO.max' {α : Type} {f : α → List Value} {w : World} {a : Option Addr} {n c : Nat} {l : List α} (h : RO f w a n c l) : n ≤ 9223372036854775807 := by
  have h1 := h.cap
  have h2 := h.max
  unfold maxLen at h2
  omega
theorem RO.at_ {α : Type} {f : α → List Value} {k : Nat} (hk : ∀ x, (f x).length = k) (h0 : 0 < k) {w : World} {a : Option Addr} {n c : Nat} {l : List α} (h : RO f w a n c l) (d : α) {i : Nat} (hi : i < n) :
    ∃ b off, a = some ⟨b, off, none⟩ ∧ b < w.heap.size ∧ ∀ j, j < k → w.cell? ⟨b, off + (i * k + j), none⟩ = (f (l.getD i d))[j]? := by
  have hl : i < l.length := by rw [← h.len]; exact hi
  rcases h.sees with e | ⟨b, off, rfl, hB, hc⟩
  · have h1 := congrArg List.length e
    rw [flat_len hk] at h1
    have h2 : 0 < l.length * k := Nat.mul_pos (by omega) h0
    simp at h1
    have : l.length * k = 0 := by simp [h1]
    omega
  · refine ⟨b, off, rfl, hB, fun j hj => ?_⟩
    have h1 : (l.flatMap f)[i * k + j]? = (f (l.getD i d))[j]? := by
      rw [flat_at hk l i j hj]
      simp [List.getD, hl]
    have h2 : j < (f (l.getD i d)).length := by rw [hk]; exact hj
    rw [List.getElem?_eq_getElem h2] at h1 ⊢
    exact hc _ _ h1
end Go.Proofs.Ytbpaoiajfjkmfaa
namespace Go.Proofs.Ytbpaoiajfjkmfaa
open Go.RowKit Go.ChangeShapes Go.WideShapes Go.Deep
set_option linter.unusedVariables false
def flatT (P : Program) : Nat → TypeId → List TypeId
  | 0, t => [t]
  | n + 1, t => match P.underlying t with
    | some (.struct fs) => fs.toList.flatMap fun f => flatT P n f.type
    | _ => [t]
def flatOK (P : Program) : Nat → TypeId → Bool
  | 0, t => true
  | n + 1, t => match P.underlying t with
    | some (.struct fs) => (List.range fs.size).all fun i => match fs[i]? with
      | some f => flatOK P n f.type && ((f.offset == ((fs.toList.take i).flatMap fun f => flatT P n f.type).length) && (P.cellsOf f.type == (flatT P n f.type).length))
      | none => true
    | _ => true
theorem flat_find {α β : Type} (g : α → List β) : ∀ (L : List α) (j : Nat) (y : β), (L.flatMap g)[j]? = some y → ∃ i x j', L[i]? = some x ∧ (g x)[j']? = some y ∧ j = ((L.take i).flatMap g).length + j'
  | [], j, y, h => by simp at h
  | x :: L, j, y, h => by
    rw [List.flatMap_cons] at h
    rcases Nat.lt_or_ge j (g x).length with hj | hj
    · rw [List.getElem?_append_left hj] at h
      exact ⟨0, x, j, rfl, h, by simp⟩
    · rw [List.getElem?_append_right hj] at h
      obtain ⟨i, x', j', h1, h2, h3⟩ := flat_find g L _ y h
      refine ⟨i + 1, x', j', by simpa using h1, h2, ?_⟩
      rw [List.take_succ_cons, List.flatMap_cons, List.length_append]
      omega
theorem flat_upto {α β : Type} (g : α → List β) (L : List α) {i : Nat} {x : α} (h : L[i]? = some x) : ((L.take i).flatMap g).length + (g x).length ≤ (L.flatMap g).length := by
  have e : L = L.take i ++ x :: L.drop (i + 1) := by
    have hl : i < L.length := (List.getElem?_eq_some_iff.1 h).1
    have hx : L[i] = x := (List.getElem?_eq_some_iff.1 h).2
    rw [← hx, ← List.drop_eq_getElem_cons hl, List.take_append_drop]
  conv => rhs; rw [e]
  rw [List.flatMap_append, List.flatMap_cons, List.length_append, List.length_append]
  omega
theorem flat_read {H : Type} {enc : TypeId × Value → H} {P : Program} {w : World} : ∀ (n : Nat) (t : TypeId) (fuel : Nat) (cs : List Value) (x : DataW H × List MemPlace), flatOK P n t = true → cs.length = (flatT P n t).length →
    DataW.trod enc P w 0 (fun _ => true) true fuel t cs = some x → Reach P t x.1 →
    ∀ (j : Nat) (u : TypeId), (flatT P n t)[j]? = some u → ∃ (v : Value) (y : DataW H × List MemPlace) (m : Nat), cs[j]? = some v ∧ DataW.trod enc P w 0 (fun _ => true) true m u [v] = some y ∧ Reach P u y.1
  | 0, t, fuel, cs, x, _, hl, h, hR, j, u, hu => by
    unfold flatT at hl hu
    match cs, hl with
    | [v], _ =>
      have hj : j = 0 := by have := (List.getElem?_eq_some_iff.1 hu).1; simp at this; omega
      subst hj
      obtain rfl : t = u := by simpa using hu
      exact ⟨v, x, fuel, rfl, h, hR⟩
  | n + 1, t, fuel, cs, x, hok, hl, h, hR, j, u, hu => by
    cases hs : P.underlying t with
    | none =>
      unfold flatT at hl hu
      rw [hs] at hl hu
      match cs, hl with
      | [v], _ =>
        have hj : j = 0 := by have := (List.getElem?_eq_some_iff.1 hu).1; simp at this; omega
        subst hj
        obtain rfl : t = u := by simpa using hu
        exact ⟨v, x, fuel, rfl, h, hR⟩
    | some d =>
      by_cases hd : ∃ fs, d = .struct fs
      · obtain ⟨fs, rfl⟩ := hd
        unfold flatT at hl hu
        unfold flatOK at hok
        rw [hs] at hl hu hok
        simp only at hl hu hok
        obtain ⟨i, f, j', h1, h2, h3⟩ := flat_find _ _ _ _ hu
        have h1' : fs[i]? = some f := by simpa using h1
        have hil : i < fs.size := (Array.getElem?_eq_some_iff.1 h1').1
        have hf := List.all_eq_true.1 hok i (List.mem_range.2 hil)
        rw [h1'] at hf
        simp only [Bool.and_eq_true, beq_iff_eq] at hf
        obtain ⟨hf1, hf2, hf3⟩ := hf
        obtain ⟨ys, m, _, hys, _, hyl, hrd⟩ := DataW.trod_struct hs h
        have hri := hrd i f h1'
        have hup := flat_upto (fun f : Field => flatT P n f.type) fs.toList h1
        have hyi : i < ys.length := by rw [hyl]; exact hil
        rw [List.getElem?_eq_getElem hyi, hf3] at hri
        have hx : x.1 = .agg (ys.map (·.1)) := by rw [hys]
        rw [hx] at hR
        have hRi := weights_agg hs hR h1' (d := ys[i].1) (by simp [List.getElem?_eq_getElem hyi])
        have hlen : ((cs.drop f.offset).take (flatT P n f.type).length).length = (flatT P n f.type).length := by
          rw [List.length_take, List.length_drop, hl, hf2]
          have := hup
          omega
        obtain ⟨v, y, m', g1, g2, g3⟩ := flat_read n f.type m _ ys[i] hf1 hlen hri hRi j' u h2
        refine ⟨v, y, m', ?_, g2, g3⟩
        have hj' : j' < (flatT P n f.type).length := (List.getElem?_eq_some_iff.1 h2).1
        rw [List.getElem?_take, if_pos hj', List.getElem?_drop] at g1
        rw [h3, ← hf2]
        exact g1
      · unfold flatT at hl hu
        rw [hs] at hl hu
        have e1 : (match some d with | some (.struct fs) => fs.toList.flatMap fun f => flatT P n f.type | _ => [t]) = [t] := by
          split
          · rename_i fs he
            injection he with he
            exact absurd ⟨_, he⟩ hd
          · rfl
        rw [e1] at hl hu
        match cs, hl with
        | [v], _ =>
          have hj : j = 0 := by have := (List.getElem?_eq_some_iff.1 hu).1; simp at this; omega
          subst hj
          obtain rfl : t = u := by simpa using hu
          exact ⟨v, x, fuel, rfl, h, hR⟩
theorem flat_row {H : Type} {enc : TypeId × Value → H} {P : Program} {w : World} {fuel : Nat} {t e : TypeId} {r : Option Addr} {len cap : Nat} {x : DataW H × List MemPlace} (n : Nat) (ts : List TypeId)
    (ht : P.underlying t = some (.slice e)) (hok : flatOK P n e = true) (hts : flatT P n e = ts) (hC : P.cellsOf e = ts.length) (h0 : 0 < ts.length)
    (h : DataW.trod enc P w 0 (fun _ => true) true fuel t [.slice r len cap] = some x) (hR : Reach P t x.1) :
    len ≤ cap ∧ cap ≤ maxLen ∧ (len = 0 ∨ len * P.bytesOf e ≤ 140737488351232 ∧ ∃ b off, r = some ⟨b, off, none⟩ ∧ b < w.heap.size ∧
      ∀ i, i < len → ∀ (j : Nat) (u : TypeId), ts[j]? = some u → ∃ (v : Value) (y : DataW H × List MemPlace) (m : Nat), w.cell? ⟨b, off + (i * ts.length + j), none⟩ = some v ∧ DataW.trod enc P w 0 (fun _ => true) true m u [v] = some y ∧ Reach P u y.1) := by
  subst hts
  rcases open_slice ht h with ⟨hcs, _⟩ | ⟨a, l, c, m, k, D, Pl, hcs, hb, hl, hm, hmm, hx, hi⟩
  · simp at hcs
    obtain ⟨rfl, rfl, rfl⟩ := hcs
    exact ⟨Nat.le_refl _, by simp, .inl rfl⟩
  · simp at hcs
    obtain ⟨rfl, rfl, rfl⟩ := hcs
    refine ⟨hl, hm, ?_⟩
    by_cases hz : len = 0
    · exact .inl hz
    right
    rw [hx] at hR
    obtain ⟨hw1, hw2⟩ := weights_slice ht hR
    simp only [List.length_map, List.length_range] at hw1
    have key : ∀ i, i < len → ∀ (j : Nat) (u : TypeId), (flatT P n e)[j]? = some u → ∃ (v : Value) (y : DataW H × List MemPlace) (m : Nat), w.cell? (a.add (i * (flatT P n e).length + j)) = some v ∧ DataW.trod enc P w 0 (fun _ => true) true m u [v] = some y ∧ Reach P u y.1 := by
      intro i hil j u hj
      obtain ⟨cs', hc, ht'⟩ := hi i (by rw [hmm]; simp; omega)
      rw [hC] at hc
      obtain ⟨_, hcl, hat⟩ := World.cells?_some hc
      have hRi := hw2 (D i) (List.mem_map.2 ⟨i, by simpa using hil, rfl⟩)
      obtain ⟨v, y, m', g1, g2, g3⟩ := flat_read n e k cs' (D i, Pl i) hok hcl ht' hRi j u hj
      have hjl : j < (flatT P n e).length := (List.getElem?_eq_some_iff.1 hj).1
      have hcell := hat j hjl
      refine ⟨v, y, m', by rw [← Go.Deep.add_add, hcell, g1], g2, g3⟩
    refine ⟨Nat.le_trans (Nat.mul_le_mul_right _ (Nat.le_add_right _ _)) hw1, ?_⟩
    obtain ⟨b, off, spot⟩ := a
    obtain ⟨v0, _, _, hv0, _⟩ := key 0 (by omega) 0 _ (List.getElem?_eq_getElem h0)
    simp only [Nat.zero_mul, Nat.add_zero] at hv0
    have hspot : spot = none := by
      have : ((⟨b, off, spot⟩ : Addr).add 0).spot = none := World.cell?_spot hv0
      simpa [Addr.add] using this
    subst hspot
    refine ⟨b, off, rfl, ?_, fun i hil j u hj => ?_⟩
    · rw [add_at] at hv0
      exact World.block_lt_of_cell? w _ hv0
    · obtain ⟨v, y, m', h1, h2⟩ := key i hil j u hj
      rw [add_at] at h1
      exact ⟨v, y, m', h1, h2⟩
theorem row_of {α : Type} (f : α → List Value) (k : Nat) (hk : ∀ x, (f x).length = k) (h0 : 0 < k) (good : α → Prop) (d : α) {w : World} {r : Option Addr} {len cap : Nat} (hl : len ≤ cap) (hm : cap ≤ maxLen)
    (h : len = 0 ∨ ∃ b off, r = some ⟨b, off, none⟩ ∧ b < w.heap.size ∧ ∀ i, i < len → ∃ s, good s ∧ ∀ j, j < k → w.cell? ⟨b, off + (i * k + j), none⟩ = (f s)[j]?) :
    ∃ l : List α, RO f w r len cap l ∧ ∀ s ∈ l, good s := by
  rcases h with rfl | ⟨b, off, rfl, hB, h⟩
  · exact ⟨[], ⟨rfl, hl, hm, .inl rfl⟩, by simp⟩
  · have key : ∀ i, ∃ s : α, i < len → good s ∧ ∀ j, j < k → w.cell? ⟨b, off + (i * k + j), none⟩ = (f s)[j]? := by
      intro i
      by_cases hi : i < len
      · obtain ⟨s, hs⟩ := h i hi; exact ⟨s, fun _ => hs⟩
      · exact ⟨d, fun h => absurd h hi⟩
    let T : Nat → α := fun i => Classical.choose (key i)
    have hT : ∀ i, i < len → good (T i) ∧ ∀ j, j < k → w.cell? ⟨b, off + (i * k + j), none⟩ = (f (T i))[j]? := fun i hi => Classical.choose_spec (key i) hi
    refine ⟨(List.range len).map T, ⟨by simp, hl, hm, .inr ⟨b, off, rfl, hB, fun p u hu => ?_⟩⟩, fun s hs => ?_⟩
    · have hp : p < len * k := by
        have := (List.getElem?_eq_some_iff.1 hu).1
        rw [flat_len hk] at this
        simpa using this
      have hd : p / k < len := Nat.div_lt_of_lt_mul (by rw [Nat.mul_comm]; exact hp)
      have hr : p % k < k := Nat.mod_lt _ h0
      have he : p = p / k * k + p % k := by rw [Nat.mul_comm]; exact (Nat.div_add_mod p k).symm
      rw [he, flat_at hk _ _ _ hr] at hu
      have h1 : ((List.range len).map T)[p / k]? = some (T (p / k)) := by simp [hd]
      rw [h1] at hu
      rw [he, (hT _ hd).2 _ hr]
      exact hu
    · obtain ⟨i, hi, rfl⟩ := List.mem_map.1 hs
      exact (hT i (by simpa using hi)).1
end Go.Proofs.Ytbpaoiajfjkmfaa
namespace Go.Proofs.Ytbpaoiajfjkmfaa
open Go.RowKit Go.ChangeShapes Go.WideShapes Go.Deep
set_option linter.unusedVariables false
set_option linter.unusedSimpArgs false
def alC (a : AlD) : List Value := [.int .i64 a.kind, .int .i64 a.sev, .string a.fn, .string a.file, .int .i64 a.line, .string a.expr]
def al0 : AlD := ⟨0, 0, ByteArray.empty, ByteArray.empty, 0, ByteArray.empty⟩
theorem alC_len (a : AlD) : (alC a).length = 6 := rfl
def alW (a : AlD) : Prop := (Lit.int .i64 a.kind).wf = true ∧ (Lit.int .i64 a.sev).wf = true ∧ a.fn.size ≤ 140737488351232 ∧ a.file.size ≤ 140737488351232 ∧ (Lit.int .i64 a.line).wf = true ∧ a.expr.size ≤ 140737488351232
def AlSl (w : World) (a : Option Addr) (n c : Nat) : Prop := ∃ l, RO alC w a n c l ∧ (∀ s ∈ l, alW s) ∧ n ≤ 1954687338211
theorem al_bytes : Try.prog.bytesOf 24 = 72 := by kernel_rfl
theorem al_row {H : Type} {enc : TypeId × Value → H} {w : World} {fuel : Nat} {r : Option Addr} {len cap : Nat} {x : DataW H × List MemPlace}
    (h : DataW.trod enc Try.prog w 0 (fun _ => true) true fuel 22 [.slice r len cap] = some x) (hR : Reach Try.prog 22 x.1) : AlSl w r len cap := by
  obtain ⟨h1, h2, h3⟩ := flat_row 2 [3, 3, 9, 9, 3, 9] Try.underlying22 (by kernel_rfl) (by kernel_rfl) (by kernel_rfl) (by decide) h hR
  have hn : len ≤ 1954687338211 := by
    rcases h3 with rfl | ⟨hb, _⟩
    · omega
    · rw [al_bytes] at hb; omega
  obtain ⟨l, g1, g2⟩ := row_of (w := w) (r := r) (len := len) (cap := cap) alC 6 alC_len (by decide) alW al0 h1 h2 (by
    rcases h3 with rfl | ⟨_, b, off, rfl, hB, hc⟩
    · exact .inl rfl
    · refine .inr ⟨b, off, rfl, hB, fun i hi => ?_⟩
      obtain ⟨v0, y0, m0, c0, t0, r0⟩ := hc i hi 0 _ rfl
      obtain ⟨v1, y1, m1, c1, t1, r1⟩ := hc i hi 1 _ rfl
      obtain ⟨v2, y2, m2, c2, t2, r2⟩ := hc i hi 2 _ rfl
      obtain ⟨v3, y3, m3, c3, t3, r3⟩ := hc i hi 3 _ rfl
      obtain ⟨v4, y4, m4, c4, t4, r4⟩ := hc i hi 4 _ rfl
      obtain ⟨v5, y5, m5, c5, t5, r5⟩ := hc i hi 5 _ rfl
      obtain ⟨z0, e0', _, w0⟩ := DataW.trod_int Try.underlying3 t0
      obtain ⟨z1, e1, _, w1⟩ := DataW.trod_int Try.underlying3 t1
      obtain ⟨z2, e2, ez2, _⟩ := DataW.trod_string Try.underlying9 t2
      obtain ⟨z3, e3, ez3, _⟩ := DataW.trod_string Try.underlying9 t3
      obtain ⟨z4, e4, _, w4⟩ := DataW.trod_int Try.underlying3 t4
      obtain ⟨z5, e5, ez5, _⟩ := DataW.trod_string Try.underlying9 t5
      simp at e0' e1 e2 e3 e4 e5
      subst e0' e1 e2 e3 e4 e5
      subst ez2 ez3 ez5
      refine ⟨⟨z0, z1, z2, z3, z4, z5⟩, ⟨w0, w1, reach_string r2, reach_string r3, w4, reach_string r5⟩, fun j hj => ?_⟩
      match j, hj with
      | 0, _ => exact c0
      | 1, _ => exact c1
      | 2, _ => exact c2
      | 3, _ => exact c3
      | 4, _ => exact c4
      | 5, _ => exact c5)
  exact ⟨l, g1, g2, hn⟩
theorem al_at {w : World} {a : Option Addr} {n c : Nat} {l : List AlD} (h : RO alC w a n c l) {i : Nat} (hi : i < n) :
    ∃ b off, a = some ⟨b, off, none⟩ ∧ b < w.heap.size ∧ w.cell? ⟨b, off + i * 6, none⟩ = some (.int .i64 (l.getD i al0).kind) ∧ w.cell? ⟨b, off + i * 6 + 1, none⟩ = some (.int .i64 (l.getD i al0).sev) ∧ w.cell? ⟨b, off + i * 6 + 2, none⟩ = some (.string (l.getD i al0).fn) ∧ w.cell? ⟨b, off + i * 6 + 3, none⟩ = some (.string (l.getD i al0).file) ∧ w.cell? ⟨b, off + i * 6 + 4, none⟩ = some (.int .i64 (l.getD i al0).line) ∧ w.cell? ⟨b, off + i * 6 + 5, none⟩ = some (.string (l.getD i al0).expr) := by
  obtain ⟨b, off, h1, h2, h3⟩ := h.at_ alC_len (by decide) al0 hi
  exact ⟨b, off, h1, h2, h3 0 (by decide), h3 1 (by decide), h3 2 (by decide), h3 3 (by decide), h3 4 (by decide), h3 5 (by decide)⟩
def bigOne (a : AlD) : Bool := decide (300 < a.fn.size) || (decide (300 < a.file.size) || decide (300 < a.expr.size))
def bigA (l : List AlD) : Bool := decide (100 < l.length) || l.any bigOne
def smallA (a : AlD) : Prop := a.fn.size ≤ 300 ∧ a.file.size ≤ 400 ∧ a.expr.size ≤ 300
theorem small_of {l : List AlD} (h : bigA l = false) : l.length ≤ 100 ∧ ∀ a ∈ l, a.fn.size ≤ 300 ∧ a.file.size ≤ 300 ∧ a.expr.size ≤ 300 := by
  unfold bigA at h
  simp only [Bool.or_eq_false_iff, decide_eq_false_iff_not, List.any_eq_false] at h
  refine ⟨by omega, fun a ha => ?_⟩
  have := h.2 a ha
  unfold bigOne at this
  simp at this
  exact ⟨by omega, by omega, by omega⟩
end Go.Proofs.Ytbpaoiajfjkmfaa
