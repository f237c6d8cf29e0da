/-
  Words and walks under the law's proof.
-/
import Derived.Deep.Slices
import Derived.Deep.Fields
import Derived.ChangeSame
import Derived.SizedLaws
import Derived.Test.YtpchncpcckfghaaGreatRows
import Derived.IntWalk
import Derived.Deep.QuietTactic
import Derived.BigQuiet
import Derived.Laws.Cover1
import Derived.Laws.CopyRow
import Derived.Laws.Tables
import Derived.Lib.Hide
import Derived.Shelf.SlSortCmp.NoneTotal
import Derived.WalkMore
import Derived.Deep.LoopGhost
import Derived.Test.YtpchncpcckfghaaGreatQN01
import Derived.Test.YtpchncpcckfghaaGreatQN02
namespace Go.Proofs.YtpchncpcckfghaaGreat
open Go.RowKit
set_option linter.unusedVariables false
set_option linter.unusedSimpArgs false
set_option maxRecDepth 100000 in
set_option maxHeartbeats 4000000 in
theorem lessB_any (w : World) (g : Nat) (v : Value) (O : List MkD) (x y : MkD) (p : Bool) (h : LB w g v O) :
    Calls Tryz.prog 42 #[pairV x y p true, .pointer (some ⟨g, 0, none⟩)] w (Shown w g O) := by
  unfold pairV
  obtain ⟨V, hV⟩ : ∃ V, V = w.alloc (.cells #[.int .u64 x.f, .string x.note, .int .u64 y.f, .string y.note, .bool p, .bool true] 75) := ⟨_, rfl⟩
  have bV : Below w.heap.size w V := by rw [hV]; exact box_below _ _ _
  obtain ⟨gp, hgp⟩ : ∃ gp, gp = w.heap.size := ⟨_, rfl⟩
  have HP : Holds V gp 75 #[.int .u64 x.f, .string x.note, .int .u64 y.f, .string y.note, .bool p, .bool true] := by rw [hV, hgp]; exact Holds.new _ _ _
  have HL := Lib.hid (h.below bV)
  have hgl : g < w.heap.size := h.blk.lt
  have bV' := Lib.hid bV
  have hV' := Lib.hid hV
  have hgp' := Lib.hid hgp
  have p5 := HP.cell 5
  simp at p5
  clear h bV hV HP hgp
  go_enter Tryz.func42, Tryz.ntmps42
  go_upto_region 1 with (fail)
  rw [← hV'.out, ← hgp'.out]
  clear hV' hgp'
  go_wp2
  go_end0
  exact ⟨rfl, bV'.out.mono (Nat.le_of_lt hgl), _, HL.out⟩
set_option maxRecDepth 100000 in
set_option maxHeartbeats 4000000 in
theorem uniA_any (w : World) (g : Nat) (v : Value) (O : List MkD) (x y : MkD) (hO : O.length ≤ 100000) (h : LB w g v O) :
    Calls Tryz.prog 41 #[pairV x y true false, .pointer (some ⟨g, 0, none⟩)] w (Shown w g (O ++ [x])) := by
  unfold pairV
  obtain ⟨ao, co, rfl, -⟩ := mro_own h.own
  obtain ⟨V, hV⟩ : ∃ V, V = w.alloc (.cells #[.int .u64 x.f, .string x.note, .int .u64 y.f, .string y.note, .bool true, .bool false] 75) := ⟨_, rfl⟩
  have bV : Below w.heap.size w V := by rw [hV]; exact box_below _ _ _
  obtain ⟨gp, hgp⟩ : ∃ gp, gp = w.heap.size := ⟨_, rfl⟩
  have HP : Holds V gp 75 #[.int .u64 x.f, .string x.note, .int .u64 y.f, .string y.note, .bool true, .bool false] := by rw [hV, hgp]; exact Holds.new _ _ _
  have HL := h.below bV
  have hgl : g < w.heap.size := h.blk.lt
  have p0 := HP.cell 0
  have p1 := HP.cell 1
  simp [mk0] at p0 p1
  obtain ⟨V2, hV2⟩ : ∃ V2, V2 = V.alloc (.cells #[.int .u64 x.f, .string x.note] 40) := ⟨_, rfl⟩
  have bV2 : Below V.heap.size V V2 := by rw [hV2]; exact box_below _ _ _
  obtain ⟨gm, hgm⟩ : ∃ gm, gm = V.heap.size := ⟨_, rfl⟩
  have HM : Holds V2 gm 40 #[.int .u64 x.f, .string x.note] := by rw [hV2, hgm]; exact Holds.new _ _ _
  have HP2 := HP.below bV2 HP.lt
  have HL2 := Lib.hid (HL.below bV2)
  have HLW := Lib.hid (fun W hW => HL.below (W := W) hW)
  have bW2 := Lib.hid bV2
  have bW := Lib.hid bV
  have hgeq : V.heap.size ≤ gm := Nat.le_of_eq hgm.symm
  have hgl2 : g < V.heap.size := HL.blk.lt
  have bV' := Lib.hid ((bV.mono (Nat.le_of_lt hgl)).trans (bV2.mono (Nat.le_of_lt hgl2)))
  have hV' := Lib.hid hV
  have hgp' := Lib.hid hgp
  have hV2' := Lib.hid hV2
  have hgm' := Lib.hid hgm
  have hgmg : g < gm := by rw [hgm]; exact hgl2
  have hgmg' : gm ≠ g := by omega
  clear h bV hV HP hgp HL bV2 hV2 hgm
  go_enter Tryz.func41, Tryz.ntmps41
  go_upto_region 1 with (fail)
  rw [← hV'.out, ← hgp'.out]
  clear hV' hgp'
  go_upto_region 2 with (fail)
  rw [← hV2'.out, ← hgm'.out]
  clear hV2' hgm' p0 p1
  have p1 := HP2.cell 1
  have p2 := HP2.cell 2
  have p3 := HP2.cell 3
  have p4 := HP2.cell 4
  have p5 := HP2.cell 5
  simp [mk0] at p1 p2 p3 p4 p5
  clear HP2
  go_upto_region 4 with (fail)
  have c0 := HL2.out.blk.cell 0
  have m0 := HM.cell 0
  have m1 := HM.cell 1
  simp [mk0] at c0 m0 m1
  clear HM
  go_wp2_with
    (at_builtin
     go_loud (refine wpList_append_mkB V2 rfl (.tmp 24) (.tmp 26) rfl (g + 1) _ O.length O HL2.out.own HL2.out.blk.lt (x) rfl _ rfl rfl (by omega) ?_)
     intro v3 W3 o3 g3
     obtain ⟨a3, c3, rfl, -, -, -⟩ := seesC_own o3
     have hb := box_below V2 (mkC (x)).toArray 40
     have HL3 := HL2.out.below hb
     have hend := Lib.hid (HL3.told (t := x) o3 g3)
     have hendB := Lib.hid (bV'.out.trans ((hb.mono (Nat.le_of_lt HL2.out.blk.lt)).trans (HL3.told_below (v' := .slice a3 (O.length + 1) c3) g3)))
     have H3 := ho_grown HL3.blk g3 HL3.not
     have k0 := H3.cell 0
     have f0 := H3.free 0
     simp at k0
     clear o3 g3 hb HL3 H3)
  go_end0
  exact ⟨rfl, hendB.out, _, hend.out⟩
set_option maxRecDepth 100000 in
set_option maxHeartbeats 4000000 in
theorem uniB_any (w : World) (g : Nat) (v : Value) (O : List MkD) (y : MkD) (hO : O.length ≤ 100000) (h : LB w g v O) :
    Calls Tryz.prog 41 #[pairV mk0 y false true, .pointer (some ⟨g, 0, none⟩)] w (Shown w g (O ++ [y])) := by
  unfold pairV
  dsimp only [mk0]
  obtain ⟨ao, co, rfl, -⟩ := mro_own h.own
  obtain ⟨V, hV⟩ : ∃ V, V = w.alloc (.cells #[.int .u64 0, .string ⟨#[]⟩, .int .u64 y.f, .string y.note, .bool false, .bool true] 75) := ⟨_, rfl⟩
  have bV : Below w.heap.size w V := by rw [hV]; exact box_below _ _ _
  obtain ⟨gp, hgp⟩ : ∃ gp, gp = w.heap.size := ⟨_, rfl⟩
  have HP : Holds V gp 75 #[.int .u64 0, .string ⟨#[]⟩, .int .u64 y.f, .string y.note, .bool false, .bool true] := by rw [hV, hgp]; exact Holds.new _ _ _
  have HL := h.below bV
  have hgl : g < w.heap.size := h.blk.lt
  have p0 := HP.cell 0
  have p1 := HP.cell 1
  simp [mk0] at p0 p1
  obtain ⟨V2, hV2⟩ : ∃ V2, V2 = V.alloc (.cells #[.int .u64 0, .string ⟨#[]⟩] 40) := ⟨_, rfl⟩
  have bV2 : Below V.heap.size V V2 := by rw [hV2]; exact box_below _ _ _
  obtain ⟨gm, hgm⟩ : ∃ gm, gm = V.heap.size := ⟨_, rfl⟩
  have HM : Holds V2 gm 40 #[.int .u64 0, .string ⟨#[]⟩] := by rw [hV2, hgm]; exact Holds.new _ _ _
  have HP2 := HP.below bV2 HP.lt
  have HL2 := Lib.hid (HL.below bV2)
  have HLW := Lib.hid (fun W hW => HL.below (W := W) hW)
  have bW2 := Lib.hid bV2
  have bW := Lib.hid bV
  have hgeq : V.heap.size ≤ gm := Nat.le_of_eq hgm.symm
  have hgl2 : g < V.heap.size := HL.blk.lt
  have bV' := Lib.hid ((bV.mono (Nat.le_of_lt hgl)).trans (bV2.mono (Nat.le_of_lt hgl2)))
  have hV' := Lib.hid hV
  have hgp' := Lib.hid hgp
  have hV2' := Lib.hid hV2
  have hgm' := Lib.hid hgm
  have hgmg : g < gm := by rw [hgm]; exact hgl2
  have hgmg' : gm ≠ g := by omega
  clear h bV hV HP hgp HL bV2 hV2 hgm
  go_enter Tryz.func41, Tryz.ntmps41
  go_upto_region 1 with (fail)
  rw [← hV'.out, ← hgp'.out]
  clear hV' hgp'
  go_upto_region 2 with (fail)
  rw [← hV2'.out, ← hgm'.out]
  clear hV2' hgm' p0 p1
  have p1 := HP2.cell 1
  have p2 := HP2.cell 2
  have p3 := HP2.cell 3
  have p4 := HP2.cell 4
  have p5 := HP2.cell 5
  simp [mk0] at p1 p2 p3 p4 p5
  clear HP2
  go_upto_region 3 with (fail)
  go_upto_region 4 with
    (refine wpList_store_row rfl 40 (.tmp 3) (.tmp 23) rfl gm #[.int .u64 y.f, .string y.note] rfl rfl 40 #[.int .u64 0, .string ⟨#[]⟩] HM (by rw [info_mk]; rfl) rfl (by simp [Value.oneCell']) ?_
     have bS := Lib.hid (mk_setRow bW2.out hgeq #[.int .u64 y.f, .string y.note])
     have HS : Hid (Holds (V2.setRow gm #[.int .u64 y.f, .string y.note]) gm 40 #[.int .u64 y.f, .string y.note]) := Lib.hid (setRow_heap V2 gm #[.int .u64 0, .string ⟨#[]⟩] #[.int .u64 y.f, .string y.note] 40 (0, 0) HM)
     generalize V2.setRow gm #[.int .u64 y.f, .string y.note] = V3 at bS HS ⊢)
  replace HL2 := Lib.hid (HLW.out V3 bS.out)
  replace bV' := Lib.hid ((bW.out.mono (Nat.le_of_lt hgl)).trans (bS.out.mono (Nat.le_of_lt hgl2)))
  replace HM := HS.out
  clear HS HLW bW2 bW p1 p2 p3 p4 p5
  have c0 := HL2.out.blk.cell 0
  have m0 := HM.cell 0
  have m1 := HM.cell 1
  simp [mk0] at c0 m0 m1
  clear HM
  go_wp2_with
    (at_builtin
     go_loud (refine wpList_append_mkB V3 rfl (.tmp 24) (.tmp 26) rfl (g + 1) _ O.length O HL2.out.own HL2.out.blk.lt (y) rfl _ rfl rfl (by omega) ?_)
     intro v3 W3 o3 g3
     obtain ⟨a3, c3, rfl, -, -, -⟩ := seesC_own o3
     have hb := box_below V3 (mkC (y)).toArray 40
     have HL3 := HL2.out.below hb
     have hend := Lib.hid (HL3.told (t := y) o3 g3)
     have hendB := Lib.hid (bV'.out.trans ((hb.mono (Nat.le_of_lt HL2.out.blk.lt)).trans (HL3.told_below (v' := .slice a3 (O.length + 1) c3) g3)))
     have H3 := ho_grown HL3.blk g3 HL3.not
     have k0 := H3.cell 0
     have f0 := H3.free 0
     simp at k0
     clear o3 g3 hb HL3 H3)
  go_end0
  exact ⟨rfl, hendB.out, _, hend.out⟩
set_option maxRecDepth 100000 in
set_option maxHeartbeats 4000000 in
theorem uniAB_gt (w : World) (g : Nat) (v : Value) (O : List MkD) (x y : MkD) (hO : O.length ≤ 100000) (h : LB w g v O) (hgt : lt8 (byt x.note) (byt y.note) = true) :
    Calls Tryz.prog 41 #[pairV x y true true, .pointer (some ⟨g, 0, none⟩)] w (Shown w g (O ++ [y])) := by
  unfold pairV
  obtain ⟨hb1, hb2⟩ := gtr_yes hgt
  clear hgt
  obtain ⟨ao, co, rfl, -⟩ := mro_own h.own
  obtain ⟨V, hV⟩ : ∃ V, V = w.alloc (.cells #[.int .u64 x.f, .string x.note, .int .u64 y.f, .string y.note, .bool true, .bool true] 75) := ⟨_, rfl⟩
  have bV : Below w.heap.size w V := by rw [hV]; exact box_below _ _ _
  obtain ⟨gp, hgp⟩ : ∃ gp, gp = w.heap.size := ⟨_, rfl⟩
  have HP : Holds V gp 75 #[.int .u64 x.f, .string x.note, .int .u64 y.f, .string y.note, .bool true, .bool true] := by rw [hV, hgp]; exact Holds.new _ _ _
  have HL := h.below bV
  have hgl : g < w.heap.size := h.blk.lt
  have p0 := HP.cell 0
  have p1 := HP.cell 1
  simp [mk0] at p0 p1
  obtain ⟨V2, hV2⟩ : ∃ V2, V2 = V.alloc (.cells #[.int .u64 x.f, .string x.note] 40) := ⟨_, rfl⟩
  have bV2 : Below V.heap.size V V2 := by rw [hV2]; exact box_below _ _ _
  obtain ⟨gm, hgm⟩ : ∃ gm, gm = V.heap.size := ⟨_, rfl⟩
  have HM : Holds V2 gm 40 #[.int .u64 x.f, .string x.note] := by rw [hV2, hgm]; exact Holds.new _ _ _
  have HP2 := HP.below bV2 HP.lt
  have HL2 := Lib.hid (HL.below bV2)
  have HLW := Lib.hid (fun W hW => HL.below (W := W) hW)
  have bW2 := Lib.hid bV2
  have bW := Lib.hid bV
  have hgeq : V.heap.size ≤ gm := Nat.le_of_eq hgm.symm
  have hgl2 : g < V.heap.size := HL.blk.lt
  have bV' := Lib.hid ((bV.mono (Nat.le_of_lt hgl)).trans (bV2.mono (Nat.le_of_lt hgl2)))
  have hV' := Lib.hid hV
  have hgp' := Lib.hid hgp
  have hV2' := Lib.hid hV2
  have hgm' := Lib.hid hgm
  have hgmg : g < gm := by rw [hgm]; exact hgl2
  have hgmg' : gm ≠ g := by omega
  clear h bV hV HP hgp HL bV2 hV2 hgm
  go_enter Tryz.func41, Tryz.ntmps41
  go_upto_region 1 with (fail)
  rw [← hV'.out, ← hgp'.out]
  clear hV' hgp'
  go_upto_region 2 with (fail)
  rw [← hV2'.out, ← hgm'.out]
  clear hV2' hgm' p0 p1
  have p1 := HP2.cell 1
  have p2 := HP2.cell 2
  have p3 := HP2.cell 3
  have p4 := HP2.cell 4
  have p5 := HP2.cell 5
  simp [mk0] at p1 p2 p3 p4 p5
  clear HP2
  go_upto_region 3 with (fail)
  go_upto_region 4 with
    (refine wpList_store_row rfl 40 (.tmp 3) (.tmp 23) rfl gm #[.int .u64 y.f, .string y.note] rfl rfl 40 #[.int .u64 x.f, .string x.note] HM (by rw [info_mk]; rfl) rfl (by simp [Value.oneCell']) ?_
     have bS := Lib.hid (mk_setRow bW2.out hgeq #[.int .u64 y.f, .string y.note])
     have HS : Hid (Holds (V2.setRow gm #[.int .u64 y.f, .string y.note]) gm 40 #[.int .u64 y.f, .string y.note]) := Lib.hid (setRow_heap V2 gm #[.int .u64 x.f, .string x.note] #[.int .u64 y.f, .string y.note] 40 (0, 0) HM)
     generalize V2.setRow gm #[.int .u64 y.f, .string y.note] = V3 at bS HS ⊢)
  replace HL2 := Lib.hid (HLW.out V3 bS.out)
  replace bV' := Lib.hid ((bW.out.mono (Nat.le_of_lt hgl)).trans (bS.out.mono (Nat.le_of_lt hgl2)))
  replace HM := HS.out
  clear HS HLW bW2 bW p1 p2 p3 p4 p5
  have c0 := HL2.out.blk.cell 0
  have m0 := HM.cell 0
  have m1 := HM.cell 1
  simp [mk0] at c0 m0 m1
  clear HM
  go_wp2_with
    (at_builtin
     go_loud (refine wpList_append_mkB V3 rfl (.tmp 24) (.tmp 26) rfl (g + 1) _ O.length O HL2.out.own HL2.out.blk.lt (y) rfl _ rfl rfl (by omega) ?_)
     intro v3 W3 o3 g3
     obtain ⟨a3, c3, rfl, -, -, -⟩ := seesC_own o3
     have hb := box_below V3 (mkC (y)).toArray 40
     have HL3 := HL2.out.below hb
     have hend := Lib.hid (HL3.told (t := y) o3 g3)
     have hendB := Lib.hid (bV'.out.trans ((hb.mono (Nat.le_of_lt HL2.out.blk.lt)).trans (HL3.told_below (v' := .slice a3 (O.length + 1) c3) g3)))
     have H3 := ho_grown HL3.blk g3 HL3.not
     have k0 := H3.cell 0
     have f0 := H3.free 0
     simp at k0
     clear o3 g3 hb HL3 H3)
  go_end0
  exact ⟨rfl, hendB.out, _, hend.out⟩
set_option maxRecDepth 100000 in
set_option maxHeartbeats 4000000 in
theorem uniAB_le (w : World) (g : Nat) (v : Value) (O : List MkD) (x y : MkD) (hO : O.length ≤ 100000) (h : LB w g v O) (hb1 : Op.bytesLess y.note.toList x.note.toList = true) :
    Calls Tryz.prog 41 #[pairV x y true true, .pointer (some ⟨g, 0, none⟩)] w (Shown w g (O ++ [x])) := by
  unfold pairV
  obtain ⟨ao, co, rfl, -⟩ := mro_own h.own
  obtain ⟨V, hV⟩ : ∃ V, V = w.alloc (.cells #[.int .u64 x.f, .string x.note, .int .u64 y.f, .string y.note, .bool true, .bool true] 75) := ⟨_, rfl⟩
  have bV : Below w.heap.size w V := by rw [hV]; exact box_below _ _ _
  obtain ⟨gp, hgp⟩ : ∃ gp, gp = w.heap.size := ⟨_, rfl⟩
  have HP : Holds V gp 75 #[.int .u64 x.f, .string x.note, .int .u64 y.f, .string y.note, .bool true, .bool true] := by rw [hV, hgp]; exact Holds.new _ _ _
  have HL := h.below bV
  have hgl : g < w.heap.size := h.blk.lt
  have p0 := HP.cell 0
  have p1 := HP.cell 1
  simp [mk0] at p0 p1
  obtain ⟨V2, hV2⟩ : ∃ V2, V2 = V.alloc (.cells #[.int .u64 x.f, .string x.note] 40) := ⟨_, rfl⟩
  have bV2 : Below V.heap.size V V2 := by rw [hV2]; exact box_below _ _ _
  obtain ⟨gm, hgm⟩ : ∃ gm, gm = V.heap.size := ⟨_, rfl⟩
  have HM : Holds V2 gm 40 #[.int .u64 x.f, .string x.note] := by rw [hV2, hgm]; exact Holds.new _ _ _
  have HP2 := HP.below bV2 HP.lt
  have HL2 := Lib.hid (HL.below bV2)
  have HLW := Lib.hid (fun W hW => HL.below (W := W) hW)
  have bW2 := Lib.hid bV2
  have bW := Lib.hid bV
  have hgeq : V.heap.size ≤ gm := Nat.le_of_eq hgm.symm
  have hgl2 : g < V.heap.size := HL.blk.lt
  have bV' := Lib.hid ((bV.mono (Nat.le_of_lt hgl)).trans (bV2.mono (Nat.le_of_lt hgl2)))
  have hV' := Lib.hid hV
  have hgp' := Lib.hid hgp
  have hV2' := Lib.hid hV2
  have hgm' := Lib.hid hgm
  have hgmg : g < gm := by rw [hgm]; exact hgl2
  have hgmg' : gm ≠ g := by omega
  clear h bV hV HP hgp HL bV2 hV2 hgm
  go_enter Tryz.func41, Tryz.ntmps41
  go_upto_region 1 with (fail)
  rw [← hV'.out, ← hgp'.out]
  clear hV' hgp'
  go_upto_region 2 with (fail)
  rw [← hV2'.out, ← hgm'.out]
  clear hV2' hgm' p0 p1
  have p1 := HP2.cell 1
  have p2 := HP2.cell 2
  have p3 := HP2.cell 3
  have p4 := HP2.cell 4
  have p5 := HP2.cell 5
  simp [mk0] at p1 p2 p3 p4 p5
  clear HP2
  go_upto_region 4 with (fail)
  have c0 := HL2.out.blk.cell 0
  have m0 := HM.cell 0
  have m1 := HM.cell 1
  simp [mk0] at c0 m0 m1
  clear HM
  go_wp2_with
    (at_builtin
     go_loud (refine wpList_append_mkB V2 rfl (.tmp 24) (.tmp 26) rfl (g + 1) _ O.length O HL2.out.own HL2.out.blk.lt (x) rfl _ rfl rfl (by omega) ?_)
     intro v3 W3 o3 g3
     obtain ⟨a3, c3, rfl, -, -, -⟩ := seesC_own o3
     have hb := box_below V2 (mkC (x)).toArray 40
     have HL3 := HL2.out.below hb
     have hend := Lib.hid (HL3.told (t := x) o3 g3)
     have hendB := Lib.hid (bV'.out.trans ((hb.mono (Nat.le_of_lt HL2.out.blk.lt)).trans (HL3.told_below (v' := .slice a3 (O.length + 1) c3) g3)))
     have H3 := ho_grown HL3.blk g3 HL3.not
     have k0 := H3.cell 0
     have f0 := H3.free 0
     simp at k0
     clear o3 g3 hb HL3 H3)
  go_end0
  exact ⟨rfl, hendB.out, _, hend.out⟩
set_option maxRecDepth 100000 in
set_option maxHeartbeats 4000000 in
theorem uniAB_eq (w : World) (g : Nat) (v : Value) (O : List MkD) (x y : MkD) (hO : O.length ≤ 100000) (h : LB w g v O) (hb2 : (y.note.toList == x.note.toList) = true) :
    Calls Tryz.prog 41 #[pairV x y true true, .pointer (some ⟨g, 0, none⟩)] w (Shown w g (O ++ [x])) := by
  unfold pairV
  obtain ⟨ao, co, rfl, -⟩ := mro_own h.own
  obtain ⟨V, hV⟩ : ∃ V, V = w.alloc (.cells #[.int .u64 x.f, .string x.note, .int .u64 y.f, .string y.note, .bool true, .bool true] 75) := ⟨_, rfl⟩
  have bV : Below w.heap.size w V := by rw [hV]; exact box_below _ _ _
  obtain ⟨gp, hgp⟩ : ∃ gp, gp = w.heap.size := ⟨_, rfl⟩
  have HP : Holds V gp 75 #[.int .u64 x.f, .string x.note, .int .u64 y.f, .string y.note, .bool true, .bool true] := by rw [hV, hgp]; exact Holds.new _ _ _
  have HL := h.below bV
  have hgl : g < w.heap.size := h.blk.lt
  have p0 := HP.cell 0
  have p1 := HP.cell 1
  simp [mk0] at p0 p1
  obtain ⟨V2, hV2⟩ : ∃ V2, V2 = V.alloc (.cells #[.int .u64 x.f, .string x.note] 40) := ⟨_, rfl⟩
  have bV2 : Below V.heap.size V V2 := by rw [hV2]; exact box_below _ _ _
  obtain ⟨gm, hgm⟩ : ∃ gm, gm = V.heap.size := ⟨_, rfl⟩
  have HM : Holds V2 gm 40 #[.int .u64 x.f, .string x.note] := by rw [hV2, hgm]; exact Holds.new _ _ _
  have HP2 := HP.below bV2 HP.lt
  have HL2 := Lib.hid (HL.below bV2)
  have HLW := Lib.hid (fun W hW => HL.below (W := W) hW)
  have bW2 := Lib.hid bV2
  have bW := Lib.hid bV
  have hgeq : V.heap.size ≤ gm := Nat.le_of_eq hgm.symm
  have hgl2 : g < V.heap.size := HL.blk.lt
  have bV' := Lib.hid ((bV.mono (Nat.le_of_lt hgl)).trans (bV2.mono (Nat.le_of_lt hgl2)))
  have hV' := Lib.hid hV
  have hgp' := Lib.hid hgp
  have hV2' := Lib.hid hV2
  have hgm' := Lib.hid hgm
  have hgmg : g < gm := by rw [hgm]; exact hgl2
  have hgmg' : gm ≠ g := by omega
  clear h bV hV HP hgp HL bV2 hV2 hgm
  go_enter Tryz.func41, Tryz.ntmps41
  go_upto_region 1 with (fail)
  rw [← hV'.out, ← hgp'.out]
  clear hV' hgp'
  go_upto_region 2 with (fail)
  rw [← hV2'.out, ← hgm'.out]
  clear hV2' hgm' p0 p1
  have p1 := HP2.cell 1
  have p2 := HP2.cell 2
  have p3 := HP2.cell 3
  have p4 := HP2.cell 4
  have p5 := HP2.cell 5
  simp [mk0] at p1 p2 p3 p4 p5
  clear HP2
  go_upto_region 4 with (fail)
  have c0 := HL2.out.blk.cell 0
  have m0 := HM.cell 0
  have m1 := HM.cell 1
  simp [mk0] at c0 m0 m1
  clear HM
  go_wp2_with
    (at_builtin
     go_loud (refine wpList_append_mkB V2 rfl (.tmp 24) (.tmp 26) rfl (g + 1) _ O.length O HL2.out.own HL2.out.blk.lt (x) rfl _ rfl rfl (by omega) ?_)
     intro v3 W3 o3 g3
     obtain ⟨a3, c3, rfl, -, -, -⟩ := seesC_own o3
     have hb := box_below V2 (mkC (x)).toArray 40
     have HL3 := HL2.out.below hb
     have hend := Lib.hid (HL3.told (t := x) o3 g3)
     have hendB := Lib.hid (bV'.out.trans ((hb.mono (Nat.le_of_lt HL2.out.blk.lt)).trans (HL3.told_below (v' := .slice a3 (O.length + 1) c3) g3)))
     have H3 := ho_grown HL3.blk g3 HL3.not
     have k0 := H3.cell 0
     have f0 := H3.free 0
     simp at k0
     clear o3 g3 hb HL3 H3)
  go_end0
  exact ⟨rfl, hendB.out, _, hend.out⟩
end Go.Proofs.YtpchncpcckfghaaGreat
namespace Go.Proofs.YtpchncpcckfghaaGreat
open Go.RowKit
set_option linter.unusedVariables false
set_option linter.unusedSimpArgs false
theorem tellU_one : ∀ x y, (tellU x y).length ≤ 1
  | some _, some _ => by simp [tellU]
  | some _, none => by simp [tellU]
  | none, some _ => by simp [tellU]
  | none, none => by simp [tellU]
theorem tellL_one : ∀ x y, (tellL x y).length ≤ 1
  | some _, some _ => by simp [tellL]
  | some _, none => by simp [tellL]
  | none, some _ => by simp [tellL]
  | none, none => by simp [tellL]
theorem showL (g : Nat) : ShowS 42 g tellL :=
  ⟨fun w v O x hO h => lessA_any w g v O x mk0 hO h, fun w v O y hO h => by simpa [tellL] using lessB_any w g v O mk0 y false h, fun w v O x y hO he h => by simpa [tellL] using lessB_any w g v O x y true h, tellL_one⟩
def MkG2 (w : World) (l : List MkD) (err : Int) (e : Ending) (w' : World) : Prop := ∃ a c, e = .returned (.tuple #[.slice a l.length c, .int .i64 err]) ∧ RO mkC w' a l.length c l ∧ Below w.heap.size w w'
theorem showU (g : Nat) : ShowS 41 g tellU :=
  ⟨fun w v O x hO h => uniA_any w g v O x mk0 hO h, fun w v O y hO h => uniB_any w g v O y hO h, fun w v O x y hO he h => by
    cases hl : lt8 (byt x.note) (byt y.note) with
    | true =>
      have e : tellU (some x) (some y) = [y] := by unfold tellU maxN; simp only [hl, if_true]; rw [he]
      rw [e]
      exact uniAB_gt w g v O x y hO h hl
    | false =>
      have e : tellU (some x) (some y) = [x] := by unfold tellU maxN; simp [hl]
      rw [e]
      rcases gtr_no hl with hb | hb
      · exact uniAB_le w g v O x y hO h hb
      · exact uniAB_eq w g v O x y hO h (by rw [hb]; simp), tellU_one⟩
set_option maxRecDepth 100000 in
set_option maxHeartbeats 4000000 in
theorem bless_ok (w : World) (a1 a2 : Option Addr) (n1 n2 c1 c2 : Nat) (A B : List MkD) (hA : baseB A = true) (hB : baseB B = true) (h1 : RO mkC w a1 n1 c1 A) (h2 : RO mkC w a2 n2 c2 B) :
    Calls Tryz.prog 16 #[.slice a1 n1 c1, .slice a2 n2 c2] w (MkG2 w (lessL A B) 0) := by
  have q1 := btwo_any w a1 a2 n1 n2 c1 c2 A B h1 h2
  have e0 : btwo A B = 0 := by unfold btwo; rw [hA, if_pos rfl, bchk_yes hB]
  rw [e0] at q1
  have Q1 := Lib.hid q1
  have l1 := baseB_len hA
  have l2 := baseB_len hB
  have m1 := h1.len
  have m2 := h2.len
  have hQ := Lib.hid (fun w1 w2 g (hg : g = w1.heap.size) (hw : Below g w1 w2) (hb : Below w.heap.size w w1) v0 h => by
    have := beside_any 42 g tellL (showL g) (enters_of Tryz.func42 (by kernel_rfl) rfl) w1 w2 a1 a2 n1 n2 c1 c2 A B (by omega) (by omega) hg hw (h1.below hb) (h2.below hb) v0 h
    rw [side_less A B (baseB_rise hA) (baseB_rise hB)] at this
    exact this)
  clear q1 e0 hA hB h1 h2 l1 l2 m1 m2
  go_enter Tryz.func16, Tryz.ntmps16
  go_wp2_with fail
  refine Q1.out.mono ?_
  rintro e w1 ⟨rfl, b1⟩
  obtain ⟨V, hV⟩ : ∃ V, V = w1.alloc (.cells #[.slice none 0 0] 22) := ⟨_, rfl⟩
  obtain ⟨g, hg⟩ : ∃ g, g = w1.heap.size := ⟨_, rfl⟩
  have bV : Below g w1 V := by rw [hV, hg]; exact box_below _ _ _
  have L0 : LB V g (.slice none 0 0) [] := by rw [hV, hg]; exact ⟨Holds.new _ _ _, own_nil _ _ _ _⟩
  have Q := Lib.hid (hQ.out w1 V g hg bV b1 _ L0)
  have B1 := Lib.hid (show Below w.heap.size w w1 from b1)
  have hV' := Lib.hid hV
  have hg' := Lib.hid hg
  have bV' := Lib.hid bV
  clear Q1 hQ b1 hV bV L0 hg
  go_wp2_with fail
  rw [← hV'.out, ← hg'.out]
  refine Q.out.mono ?_
  rintro e w3 ⟨rfl, b3, v3, L3⟩
  obtain ⟨a3, c3, rfl, hro⟩ := mro_own L3.own
  have k0 := L3.blk.cell 0
  simp at k0
  have R3 := Lib.hid hro
  have B3 := Lib.hid (B1.out.trans ((bV'.out.trans b3).mono (by rw [hg'.out]; exact B1.out.size)))
  clear L3 hro b3 Q
  go_wp2
  exact bodyPost_ret (results_tmp2 rfl _ _ _) rfl ⟨a3, c3, rfl, R3.out, B3.out⟩
set_option maxRecDepth 100000 in
set_option maxHeartbeats 4000000 in
theorem bunion_ok (w : World) (a1 a2 : Option Addr) (n1 n2 c1 c2 : Nat) (A B : List MkD) (hl : ¬ 1024 < (mergeL A B).length) (hA : baseB A = true) (hB : baseB B = true) (h1 : RO mkC w a1 n1 c1 A) (h2 : RO mkC w a2 n2 c2 B) :
    Calls Tryz.prog 15 #[.slice a1 n1 c1, .slice a2 n2 c2] w (MkG2 w (mergeL A B) 0) := by
  have q1 := btwo_any w a1 a2 n1 n2 c1 c2 A B h1 h2
  have e0 : btwo A B = 0 := by unfold btwo; rw [hA, if_pos rfl, bchk_yes hB]
  rw [e0] at q1
  have Q1 := Lib.hid q1
  have l1 := baseB_len hA
  have l2 := baseB_len hB
  have m1 := h1.len
  have m2 := h2.len
  have hQ := Lib.hid (fun w1 w2 g (hg : g = w1.heap.size) (hw : Below g w1 w2) (hb : Below w.heap.size w w1) v0 h => by
    have := beside_any 41 g tellU (showU g) (enters_of Tryz.func41 (by kernel_rfl) rfl) w1 w2 a1 a2 n1 n2 c1 c2 A B (by omega) (by omega) hg hw (h1.below hb) (h2.below hb) v0 h
    rw [side_union A B] at this
    exact this)
  clear q1 e0 hA hB h1 h2 l1 l2 m1 m2
  go_enter Tryz.func15, Tryz.ntmps15
  go_wp2_with fail
  refine Q1.out.mono ?_
  rintro e w1 ⟨rfl, b1⟩
  obtain ⟨V, hV⟩ : ∃ V, V = w1.alloc (.cells #[.slice none 0 0] 22) := ⟨_, rfl⟩
  obtain ⟨g, hg⟩ : ∃ g, g = w1.heap.size := ⟨_, rfl⟩
  have bV : Below g w1 V := by rw [hV, hg]; exact box_below _ _ _
  have L0 : LB V g (.slice none 0 0) [] := by rw [hV, hg]; exact ⟨Holds.new _ _ _, own_nil _ _ _ _⟩
  have Q := Lib.hid (hQ.out w1 V g hg bV b1 _ L0)
  have B1 := Lib.hid (show Below w.heap.size w w1 from b1)
  have hV' := Lib.hid hV
  have hg' := Lib.hid hg
  have bV' := Lib.hid bV
  clear Q1 hQ b1 hV bV L0 hg
  go_wp2_with fail
  rw [← hV'.out, ← hg'.out]
  refine Q.out.mono ?_
  rintro e w3 ⟨rfl, b3, v3, L3⟩
  obtain ⟨a3, c3, rfl, hro⟩ := mro_own L3.own
  have k0 := L3.blk.cell 0
  simp at k0
  have R3 := Lib.hid hro
  have B3 := Lib.hid (B1.out.trans ((bV'.out.trans b3).mono (by rw [hg'.out]; exact B1.out.size)))
  clear L3 hro b3 Q
  have hlz : ¬ (1024 : Int) < ((mergeL A B).length : Int) := by omega
  clear hl
  go_wp2
  exact bodyPost_ret (results_tmp2 rfl _ _ _) rfl ⟨a3, c3, rfl, R3.out, B3.out⟩
set_option maxRecDepth 100000 in
set_option maxHeartbeats 4000000 in
theorem bunion_long (w : World) (a1 a2 : Option Addr) (n1 n2 c1 c2 : Nat) (A B : List MkD) (hl : 1024 < (mergeL A B).length) (hA : baseB A = true) (hB : baseB B = true) (h1 : RO mkC w a1 n1 c1 A) (h2 : RO mkC w a2 n2 c2 B) :
    Calls Tryz.prog 15 #[.slice a1 n1 c1, .slice a2 n2 c2] w (MkG2 w [] 3) := by
  have q1 := btwo_any w a1 a2 n1 n2 c1 c2 A B h1 h2
  have e0 : btwo A B = 0 := by unfold btwo; rw [hA, if_pos rfl, bchk_yes hB]
  rw [e0] at q1
  have Q1 := Lib.hid q1
  have l1 := baseB_len hA
  have l2 := baseB_len hB
  have m1 := h1.len
  have m2 := h2.len
  have hQ := Lib.hid (fun w1 w2 g (hg : g = w1.heap.size) (hw : Below g w1 w2) (hb : Below w.heap.size w w1) v0 h => by
    have := beside_any 41 g tellU (showU g) (enters_of Tryz.func41 (by kernel_rfl) rfl) w1 w2 a1 a2 n1 n2 c1 c2 A B (by omega) (by omega) hg hw (h1.below hb) (h2.below hb) v0 h
    rw [side_union A B] at this
    exact this)
  clear q1 e0 hA hB h1 h2 l1 l2 m1 m2
  go_enter Tryz.func15, Tryz.ntmps15
  go_wp2_with fail
  refine Q1.out.mono ?_
  rintro e w1 ⟨rfl, b1⟩
  obtain ⟨V, hV⟩ : ∃ V, V = w1.alloc (.cells #[.slice none 0 0] 22) := ⟨_, rfl⟩
  obtain ⟨g, hg⟩ : ∃ g, g = w1.heap.size := ⟨_, rfl⟩
  have bV : Below g w1 V := by rw [hV, hg]; exact box_below _ _ _
  have L0 : LB V g (.slice none 0 0) [] := by rw [hV, hg]; exact ⟨Holds.new _ _ _, own_nil _ _ _ _⟩
  have Q := Lib.hid (hQ.out w1 V g hg bV b1 _ L0)
  have B1 := Lib.hid (show Below w.heap.size w w1 from b1)
  have hV' := Lib.hid hV
  have hg' := Lib.hid hg
  have bV' := Lib.hid bV
  clear Q1 hQ b1 hV bV L0 hg
  go_wp2_with fail
  rw [← hV'.out, ← hg'.out]
  refine Q.out.mono ?_
  rintro e w3 ⟨rfl, b3, v3, L3⟩
  obtain ⟨a3, c3, rfl, hro⟩ := mro_own L3.own
  have k0 := L3.blk.cell 0
  simp at k0
  have R3 := Lib.hid hro
  have B3 := Lib.hid (B1.out.trans ((bV'.out.trans b3).mono (by rw [hg'.out]; exact B1.out.size)))
  clear L3 hro b3 Q
  have hlz : (1024 : Int) < ((mergeL A B).length : Int) := by omega
  clear hl
  go_wp2
  exact bodyPost_ret (results_tmp2 rfl _ _ _) rfl ⟨none, 0, rfl, RO.nil _, B3.out⟩
end Go.Proofs.YtpchncpcckfghaaGreat
namespace Go.Proofs.YtpchncpcckfghaaGreat
open Go.RowKit
set_option linter.unusedVariables false
set_option linter.unusedSimpArgs false
structure Two {α : Type} (enc : α → List Value) (e : TypeId) (k : Nat) (w0 w : World) (v1 v2 : Value) (l1 l2 : List α) : Prop where
  o1 : w.ownsRow w0.heap.size e k v1 l1.length (l1.flatMap enc)
  o2 : w.ownsRow w0.heap.size e k v2 l2.length (l2.flatMap enc)
  b : Below w0.heap.size w0 w
  ne : ∀ q, v1.ownBlock = some q → v2.ownBlock = some q → False
theorem Two.symm {α : Type} {enc : α → List Value} {e : TypeId} {k : Nat} {w0 w : World} {v1 v2 : Value} {l1 l2 : List α} (h : Two enc e k w0 w v1 v2 l1 l2) : Two enc e k w0 w v2 v1 l2 l1 := ⟨h.o2, h.o1, h.b, fun q a c => h.ne q c a⟩
theorem Two.nil {α : Type} (enc : α → List Value) (e : TypeId) (k : Nat) (w : World) : Two enc e k w w (.slice none 0 0) (.slice none 0 0) [] [] := ⟨own_nil _ _ _ _, own_nil _ _ _ _, Below.refl _ _, by intro q h; cases h⟩
theorem Two.below {α : Type} {enc : α → List Value} {e : TypeId} {k : Nat} {w0 w W : World} {v1 v2 : Value} {l1 l2 : List α} (h : Two enc e k w0 w v1 v2 l1 l2) (hb : Below w.heap.size w W) : Two enc e k w0 W v1 v2 l1 l2 :=
  ⟨own_below h.o1 hb, own_below h.o2 hb, h.b.trans (hb.mono h.b.size), h.ne⟩
theorem wpList_append_two1 {P : Program} {α : Type} {enc : α → List Value} {e t : TypeId} {k bytes : Nat} {ops : Array Oper} {rest : List Oper} {o : Oper} {a : Act} {Q : Exit → Act → World → Prop} (w : World) (hg : o.guard = none) (s x : Operand)
    (hop : o.op = Op.call { callee := Callee.builtin Builtin.append, args := #[s, x], argTypes := #[t, t] })
    (i : TypeInfo) (z : Value) (ht : P.underlying t = some (.slice e)) (hi : P.info? e = some i) (hz : i.zero = some z) (hsize : i.size = k) (hby : i.bytes = bytes) (hzs : z.cells.size = k) (hk0 : 0 < k) (hk : ∀ x, (enc x).length = k) (hbs : bytes ≤ 200) (h1c : ∀ x, ∀ u ∈ enc x, u.oneCell' = true)
    (w0 : World) (v1 v2 : Value) (l1 l2 : List α) (h : Two enc e k w0 w v1 v2 l1 l2) (y : α) (cs : Array Value) (hcs : cs.toList = enc y)
    (hsv : a.eval s = v1) (hg2 : Nat) (hx : a.eval x = .slice (some ⟨hg2, 0, none⟩) 1 1) (hh : hg2 = w.heap.size) (hn : l1.length ≤ 1000000)
    (hK : ∀ v' w', Two enc e k w0 w' v' v2 (l1 ++ [y]) l2 → wpList P ops Q rest (a.put o.dst v') w') :
    wpList P ops Q (o :: rest) a (w.alloc (.cells cs e)) := by
  subst hh
  have hb1 : Below w.heap.size w (w.alloc (.cells cs e)) := (Below.refl _ _).alloc (Nat.le_refl _) _
  have hS := seesC_lit w e cs
  rw [hcs] at hS
  have hbb : (l1.length + 1) * bytes ≤ 140737488355328 := by
    have : (l1.length + 1) * bytes ≤ 1000001 * 200 := Nat.mul_le_mul (by omega) hbs
    omega
  obtain ⟨v', w', hrun, g1, g2, g3⟩ := run_append_cellsB (P := P) (w.alloc (.cells cs e)) w0.heap.size t o.type e i z k bytes ht hi hz hsize hby hzs hk0 v1 l1.length (l1.flatMap enc) (own_below h.o1 hb1) _ _ 1 1 (enc y) (by rw [hk]; omega) hS (fun u hu => h1c y u hu) (by unfold maxLen; omega) hbb (Nat.le_trans h.b.size hb1.size)
  refine wpList_plain hg fun K hK' => ?_
  unfold Oper.wp
  simp [execOp, hop, resolve, invoke, builtin, hsv, hx, hrun, Result.andThen]
  have hb2 := h.b.trans (hb1.mono h.b.size)
  have hlt := fun q hq => (h.o2.lt q hq).2
  have hks : v2.ownBlock = none ∨ v2.ownBlock ≠ v1.ownBlock := by
    cases ee : v2.ownBlock with
    | none => exact .inl rfl
    | some q => exact .inr fun e2 => h.ne q e2.symm ee
  refine hK' _ _ (hK v' w' ⟨by rw [List.flatMap_append, List.length_append]; simpa using g1, (own_below h.o2 hb1).kept g2 hks, hb2.grown g2 hb2.size fun q hq => (h.o1.lt q hq).1, ?_⟩)
  intro q e1 e2
  rcases g3 with g3 | g3
  · exact h.ne q (g3 ▸ e1) e2
  · rw [g3] at e1
    injection e1 with e1
    have := hlt q e2
    have := hb1.size
    omega
end Go.Proofs.YtpchncpcckfghaaGreat
namespace Go.Proofs.YtpchncpcckfghaaGreat
open Go.RowKit
set_option linter.unusedVariables false
def partL {α : Type} (d : α) (p : Nat → Bool) (b : Bool) (l : List α) : Nat → List α
  | 0 => []
  | k + 1 => partL d p b l k ++ if p k = b then [l.getD k d] else []
theorem apl_len {α : Type} (d : α) (p : Nat → Bool) (b : Bool) (l : List α) : ∀ k, (partL d p b l k).length ≤ k
  | 0 => Nat.le_refl _
  | k + 1 => by
    have := apl_len d p b l k
    unfold partL
    split <;> simp <;> omega
theorem apl_yes {α : Type} {d : α} {p : Nat → Bool} {l : List α} {k : Nat} (h : p k = true) : partL d p true l (k + 1) = partL d p true l k ++ [l.getD k d] ∧ partL d p false l (k + 1) = partL d p false l k := by
  simp [partL, h]
theorem apl_no {α : Type} {d : α} {p : Nat → Bool} {l : List α} {k : Nat} (h : p k = false) : partL d p true l (k + 1) = partL d p true l k ∧ partL d p false l (k + 1) = partL d p false l k ++ [l.getD k d] := by
  simp [partL, h]
def PartE {α : Type} (enc : α → List Value) (T : TypeId) (q : Nat) (d : α) (p : Nat → Bool) (l : List α) (n : Nat) (w : World) (e : Ending) (w' : World) : Prop :=
  ∃ v1 v2, e = .returned (.tuple #[v1, v2]) ∧ Two enc T q w w' v1 v2 (partL d p true l n) (partL d p false l n)
end Go.Proofs.YtpchncpcckfghaaGreat
namespace Go.Proofs.YtpchncpcckfghaaGreat
open Go.RowKit Go.ChangeShapes Go.WideShapes Go.Deep
set_option linter.unusedVariables false
set_option linter.unusedSimpArgs false
def alC (a : AlD) : List Value := [.int .i64 a.kind, .int .i64 a.sev, .string a.fn, .string a.file, .int .i64 a.line, .string a.expr]
def al0 : AlD := ⟨0, 0, ByteArray.empty, ByteArray.empty, 0, ByteArray.empty⟩
theorem alC_len (a : AlD) : (alC a).length = 6 := rfl
def alW (a : AlD) : Prop := (Lit.int .i64 a.kind).wf = true ∧ (Lit.int .i64 a.sev).wf = true ∧ a.fn.size ≤ 140737488351232 ∧ a.file.size ≤ 140737488351232 ∧ (Lit.int .i64 a.line).wf = true ∧ a.expr.size ≤ 140737488351232
theorem al_at {w : World} {a : Option Addr} {n c : Nat} {l : List AlD} (h : RO alC w a n c l) {i : Nat} (hi : i < n) :
    ∃ b off, a = some ⟨b, off, none⟩ ∧ b < w.heap.size ∧ w.cell? ⟨b, off + i * 6, none⟩ = some (.int .i64 (l.getD i al0).kind) ∧ w.cell? ⟨b, off + i * 6 + 1, none⟩ = some (.int .i64 (l.getD i al0).sev) ∧ w.cell? ⟨b, off + i * 6 + 2, none⟩ = some (.string (l.getD i al0).fn) ∧ w.cell? ⟨b, off + i * 6 + 3, none⟩ = some (.string (l.getD i al0).file) ∧ w.cell? ⟨b, off + i * 6 + 4, none⟩ = some (.int .i64 (l.getD i al0).line) ∧ w.cell? ⟨b, off + i * 6 + 5, none⟩ = some (.string (l.getD i al0).expr) := by
  obtain ⟨b, off, h1, h2, h3⟩ := h.at_ alC_len (by decide) al0 hi
  exact ⟨b, off, h1, h2, h3 0 (by decide), h3 1 (by decide), h3 2 (by decide), h3 3 (by decide), h3 4 (by decide), h3 5 (by decide)⟩
def smallA (a : AlD) : Prop := a.fn.size ≤ 300 ∧ a.file.size ≤ 400 ∧ a.expr.size ≤ 300
end Go.Proofs.YtpchncpcckfghaaGreat
namespace Go.Proofs.YtpchncpcckfghaaGreat
open Go.RowKit
set_option linter.unusedVariables false
set_option linter.unusedSimpArgs false
theorem infoAl : (Tryz.prog.info? 54).map (fun i => (i.zero.map fun z => z.cells.size, i.size, i.bytes)) = some (some 6, 6, 72) := by kernel_rfl
theorem infoAlZ : ∃ i z, Tryz.prog.info? 54 = some i ∧ i.zero = some z ∧ i.size = 6 ∧ i.bytes = 72 ∧ z.cells.size = 6 := by
  have h := infoAl
  cases hi : Tryz.prog.info? 54 with
  | none => rw [hi] at h; simp at h
  | some i =>
    rw [hi] at h
    simp at h
    obtain ⟨⟨z, hz, h1⟩, h2, h3⟩ := h
    exact ⟨i, z, rfl, hz, h2, h3, h1⟩
def alcells (l : List AlD) : List Value := l.flatMap alC
theorem alcells_one {l : List AlD} {u : Value} (h : u ∈ alcells l) : u.oneCell' = true := by
  obtain ⟨a, _, ha⟩ := List.mem_flatMap.1 h
  simp [alC] at ha
  rcases ha with rfl | rfl | rfl | rfl | rfl | rfl <;> rfl
end Go.Proofs.YtpchncpcckfghaaGreat
namespace Go.Proofs.YtpchncpcckfghaaGreat
open Go.RowKit
set_option linter.unusedVariables false
set_option linter.unusedSimpArgs false
theorem info_alS : (Tryz.prog.info? 54).map (·.size) = some 6 := by kernel_rfl
set_option maxRecDepth 100000 in
set_option maxHeartbeats 8000000 in
theorem apartAl_any (f : Nat) (cb : Array Value) (p : Nat → Bool) (w : World) (a : Option Addr) (n c : Nat) (l : List AlD) (hn : n ≤ 100000) (h : RO alC w a n c l)
    (ef : ∀ args w, (callFunc f args).run Tryz.prog w = .ok (.enter f args) w) (hf : ∀ W, Below w.heap.size w W → ∀ k, k < n → Calls Tryz.prog f (#[.int .i64 (k : Nat), .agg (alC (l.getD k al0)).toArray] ++ cb) W (Gives (.bool (p k)) W)) :
    Calls Tryz.prog 33 #[.slice a n c, .func (.func f) #[] cb] w (PartE alC 54 6 al0 p l n w) := by
  have hlen := Lib.hid h.len
  have RW := Lib.hid h
  have hF := Lib.hid hf
  have hll := Lib.hid (fun b k => apl_len al0 p b l k)
  have hyes := Lib.hid (fun k h => apl_yes (d := al0) (p := p) (l := l) (k := k) h)
  have hno := Lib.hid (fun k h => apl_no (d := al0) (p := p) (l := l) (k := k) h)
  have T0 := Lib.hid (show Two alC 54 6 w w (.slice none 0 0) (.slice none 0 0) (partL al0 p true l 0) (partL al0 p false l 0) from Two.nil _ _ _ _)
  obtain ⟨i0, zz, hi, hz, h6, h72, hz6⟩ := infoAlZ
  clear h hf
  go_enter Tryz.func33, Tryz.ntmps33
  go_wp2
  go_loopw [4, 5, 10] (fun v1 v2 x wr => ∃ k : Nat, k ≤ n ∧ x = .int .i64 k ∧ Hid (Two alC 54 6 w wr v1 v2 (partL al0 p true l k) (partL al0 p false l k))) (fun _ _ x _ => n - (intOf x).toNat)
  case atStart => exact ⟨0, Nat.zero_le _, rfl, T0⟩
  case round =>
    obtain ⟨k, hk, rfl, hT⟩ := hrel
    clear T0
    generalize wr = g0 at *
    by_cases hlt : k < n
    · have hki : (k : Int) < (n : Int) := by omega
      obtain ⟨b, off, rfl, hbl, x0, x1, x2, x3, x4, x5⟩ := al_at (RW.out.below hT.out.b) hlt
      have hc1 : (partL al0 p true l k).length ≤ 1000000 := Nat.le_trans (hll.out true k) (by omega)
      have hc2 : (partL al0 p false l k).length ≤ 1000000 := Nat.le_trans (hll.out false k) (by omega)
      have hy' := Lib.hid (hyes.out k)
      have hn' := Lib.hid (hno.out k)
      have hF' := Lib.hid (fun W hW => hF.out W hW k hlt)
      obtain ⟨L1', hL1'⟩ : ∃ L, partL al0 p true l (k + 1) = L := ⟨_, rfl⟩
      obtain ⟨L2', hL2'⟩ : ∃ L, partL al0 p false l (k + 1) = L := ⟨_, rfl⟩
      rw [hL1', hL2'] at hy' hn'
      have hM1 := Lib.hid hL1'
      have hM2 := Lib.hid hL2'
      clear hL1' hL2'
      generalize partL al0 p true l k = L1 at *
      generalize partL al0 p false l k = L2 at *
      generalize l.getD k al0 = X at *
      obtain ⟨V, hV⟩ : ∃ V, V = g0.alloc (.cells #[.int .i64 0, .int .i64 0, .string ⟨#[]⟩, .string ⟨#[]⟩, .int .i64 0, .string ⟨#[]⟩] 54) := ⟨_, rfl⟩
      obtain ⟨gb, hgb⟩ : ∃ gb, gb = g0.heap.size := ⟨_, rfl⟩
      have HB : Holds V gb 54 #[.int .i64 0, .int .i64 0, .string ⟨#[]⟩, .string ⟨#[]⟩, .int .i64 0, .string ⟨#[]⟩] := by rw [hV, hgb]; exact Holds.new _ _ _
      have bV : Below g0.heap.size g0 V := by rw [hV]; exact box_below _ _ _
      clear hyes hno hll hF RW
      go_wp2_with
        (rw [← hV, ← hgb]
         refine wpList_store_row rfl 54 (.tmp 7) (.tmp 14) rfl gb #[.int .i64 X.kind, .int .i64 X.sev, .string X.fn, .string X.file, .int .i64 X.line, .string X.expr] rfl rfl 54 #[.int .i64 0, .int .i64 0, .string ⟨#[]⟩, .string ⟨#[]⟩, .int .i64 0, .string ⟨#[]⟩] HB (by rw [info_alS]; rfl) rfl (by simp [Value.oneCell']) ?_
         have bS : Hid (Below g0.heap.size g0 (V.setRow gb #[.int .i64 X.kind, .int .i64 X.sev, .string X.fn, .string X.file, .int .i64 X.line, .string X.expr])) := Lib.hid (mk_setRow bV (Nat.le_of_eq hgb.symm) _)
         have HS : Hid (Holds (V.setRow gb #[.int .i64 X.kind, .int .i64 X.sev, .string X.fn, .string X.file, .int .i64 X.line, .string X.expr]) gb 54 #[.int .i64 X.kind, .int .i64 X.sev, .string X.fn, .string X.file, .int .i64 X.line, .string X.expr]) := Lib.hid (setRow_heap V gb #[.int .i64 0, .int .i64 0, .string ⟨#[]⟩, .string ⟨#[]⟩, .int .i64 0, .string ⟨#[]⟩] #[.int .i64 X.kind, .int .i64 X.sev, .string X.fn, .string X.file, .int .i64 X.line, .string X.expr] 54 (0, 0) HB)
         generalize V.setRow gb #[.int .i64 X.kind, .int .i64 X.sev, .string X.fn, .string X.file, .int .i64 X.line, .string X.expr] = V8 at *
         clear hV bV HB hgb x0 x1 x2 x3 x4 x5
         have k0 := HS.out.cell 0
         have k1 := HS.out.cell 1
         have k2 := HS.out.cell 2
         have k3 := HS.out.cell 3
         have k4 := HS.out.cell 4
         have k5 := HS.out.cell 5
         simp at k0 k1 k2 k3 k4 k5)
      have hT8 := Lib.hid (hT.out.below bS.out)
      have q := Lib.hid (hF'.out V8 hT8.out.b)
      clear hF' hT bS
      dsimp only [alC, List.toArray] at q
      refine q.out.mono ?_
      rintro e w9 ⟨rfl, b9⟩
      have hT9 := Lib.hid (hT8.out.below b9)
      have HM := HS.out.below b9 HS.out.lt
      have m0 := HM.cell 0
      have m1 := HM.cell 1
      have m2 := HM.cell 2
      have m3 := HM.cell 3
      have m4 := HM.cell 4
      have m5 := HM.cell 5
      simp at m0 m1 m2 m3 m4 m5
      clear k0 k1 k2 k3 k4 k5
      clear HM hT8 q b9 HS
      cases hpk : p k
      · obtain ⟨e1, e2⟩ := hn'.out hpk
        clear hy' hn' hpk
        go_wp2_with
          (at_builtin
           go_loud (refine wpList_append_two1 w9 rfl (.tmp 23) (.tmp 25) rfl i0 zz Tryz.underlying23 hi hz h6 h72 hz6 (by decide) alC_len (by decide) (fun x u hu => alcells_one (l := [x]) (by simpa [alcells] using hu)) w _ _ L2 L1 hT9.out.symm X _ rfl rfl _ rfl rfl hc2 ?_)
           intro v2 g2 T2
           have T2' := Lib.hid T2.symm
           clear T2 hT9)
        go_roundw
        case rel => exact ⟨k + 1, by omega, by go_num, Lib.hid (by rw [hM1.out, hM2.out, e1, e2]; exact T2'.out)⟩
        case measure => simp [intOf]; omega
      · obtain ⟨e1, e2⟩ := hy'.out hpk
        clear hy' hn' hpk
        go_wp2_with
          (at_builtin
           go_loud (refine wpList_append_two1 w9 rfl (.tmp 19) (.tmp 21) rfl i0 zz Tryz.underlying23 hi hz h6 h72 hz6 (by decide) alC_len (by decide) (fun x u hu => alcells_one (l := [x]) (by simpa [alcells] using hu)) w _ _ L1 L2 hT9.out X _ rfl rfl _ rfl rfl hc1 ?_)
           intro v2 g2 T2
           have T2' := Lib.hid T2
           clear T2 hT9)
        go_roundw
        case rel => exact ⟨k + 1, by omega, by go_num, Lib.hid (by rw [hM1.out, hM2.out, e1, e2]; exact T2'.out)⟩
        case measure => simp [intOf]; omega
    · have hki : ¬ (k : Int) < (n : Int) := by omega
      have hke : k = n := by omega
      subst hke
      clear hll hyes hno hF
      go_wp2
      refine bodyPost_ret (results_tmp2 rfl _ _ _) rfl ?_
      exact ⟨_, _, rfl, hT.out⟩
end Go.Proofs.YtpchncpcckfghaaGreat
namespace Go.Proofs.YtpchncpcckfghaaGreat
open Go.RowKit
set_option linter.unusedVariables false
set_option linter.unusedSimpArgs false
set_option maxRecDepth 100000 in
set_option maxHeartbeats 8000000 in
theorem apartMk_any (f : Nat) (cb : Array Value) (p : Nat → Bool) (w : World) (a : Option Addr) (n c : Nat) (l : List MkD) (hn : n ≤ 100000) (h : RO mkC w a n c l)
    (ef : ∀ args w, (callFunc f args).run Tryz.prog w = .ok (.enter f args) w) (hf : ∀ W, Below w.heap.size w W → ∀ k, k < n → Calls Tryz.prog f (#[.int .i64 (k : Nat), .agg (mkC (l.getD k mk0)).toArray] ++ cb) W (Gives (.bool (p k)) W)) :
    Calls Tryz.prog 36 #[.slice a n c, .func (.func f) #[] cb] w (PartE mkC 40 2 mk0 p l n w) := by
  have hlen := Lib.hid h.len
  have RW := Lib.hid h
  have hF := Lib.hid hf
  have hll := Lib.hid (fun b k => apl_len mk0 p b l k)
  have hyes := Lib.hid (fun k h => apl_yes (d := mk0) (p := p) (l := l) (k := k) h)
  have hno := Lib.hid (fun k h => apl_no (d := mk0) (p := p) (l := l) (k := k) h)
  have T0 := Lib.hid (show Two mkC 40 2 w w (.slice none 0 0) (.slice none 0 0) (partL mk0 p true l 0) (partL mk0 p false l 0) from Two.nil _ _ _ _)
  obtain ⟨i0, zz, hi, hz, h6, h72, hz6⟩ := infoMkZ
  clear h hf
  go_enter Tryz.func36, Tryz.ntmps36
  go_wp2
  go_loopw [4, 5, 10] (fun v1 v2 x wr => ∃ k : Nat, k ≤ n ∧ x = .int .i64 k ∧ Hid (Two mkC 40 2 w wr v1 v2 (partL mk0 p true l k) (partL mk0 p false l k))) (fun _ _ x _ => n - (intOf x).toNat)
  case atStart => exact ⟨0, Nat.zero_le _, rfl, T0⟩
  case round =>
    obtain ⟨k, hk, rfl, hT⟩ := hrel
    clear T0
    generalize wr = g0 at *
    by_cases hlt : k < n
    · have hki : (k : Int) < (n : Int) := by omega
      obtain ⟨b, off, rfl, hbl, x0, x1⟩ := mk_at (RW.out.below hT.out.b) hlt
      have hc1 : (partL mk0 p true l k).length ≤ 1000000 := Nat.le_trans (hll.out true k) (by omega)
      have hc2 : (partL mk0 p false l k).length ≤ 1000000 := Nat.le_trans (hll.out false k) (by omega)
      have hy' := Lib.hid (hyes.out k)
      have hn' := Lib.hid (hno.out k)
      have hF' := Lib.hid (fun W hW => hF.out W hW k hlt)
      obtain ⟨L1', hL1'⟩ : ∃ L, partL mk0 p true l (k + 1) = L := ⟨_, rfl⟩
      obtain ⟨L2', hL2'⟩ : ∃ L, partL mk0 p false l (k + 1) = L := ⟨_, rfl⟩
      rw [hL1', hL2'] at hy' hn'
      have hM1 := Lib.hid hL1'
      have hM2 := Lib.hid hL2'
      clear hL1' hL2'
      generalize partL mk0 p true l k = L1 at *
      generalize partL mk0 p false l k = L2 at *
      generalize l.getD k mk0 = X at *
      obtain ⟨V, hV⟩ : ∃ V, V = g0.alloc (.cells #[.int .u64 0, .string ⟨#[]⟩] 40) := ⟨_, rfl⟩
      obtain ⟨gb, hgb⟩ : ∃ gb, gb = g0.heap.size := ⟨_, rfl⟩
      have HB : Holds V gb 40 #[.int .u64 0, .string ⟨#[]⟩] := by rw [hV, hgb]; exact Holds.new _ _ _
      have bV : Below g0.heap.size g0 V := by rw [hV]; exact box_below _ _ _
      clear hyes hno hll hF RW
      go_wp2_with
        (rw [← hV, ← hgb]
         refine wpList_store_row rfl 40 (.tmp 7) (.tmp 14) rfl gb #[.int .u64 X.f, .string X.note] rfl rfl 40 #[.int .u64 0, .string ⟨#[]⟩] HB (by rw [info_mk]; rfl) rfl (by simp [Value.oneCell']) ?_
         have bS : Hid (Below g0.heap.size g0 (V.setRow gb #[.int .u64 X.f, .string X.note])) := Lib.hid (mk_setRow bV (Nat.le_of_eq hgb.symm) _)
         have HS : Hid (Holds (V.setRow gb #[.int .u64 X.f, .string X.note]) gb 40 #[.int .u64 X.f, .string X.note]) := Lib.hid (setRow_heap V gb #[.int .u64 0, .string ⟨#[]⟩] #[.int .u64 X.f, .string X.note] 40 (0, 0) HB)
         generalize V.setRow gb #[.int .u64 X.f, .string X.note] = V8 at *
         clear hV bV HB hgb x0 x1
         have k0 := HS.out.cell 0
         have k1 := HS.out.cell 1
         simp at k0 k1)
      have hT8 := Lib.hid (hT.out.below bS.out)
      have q := Lib.hid (hF'.out V8 hT8.out.b)
      clear hF' hT bS
      dsimp only [mkC, List.toArray] at q
      refine q.out.mono ?_
      rintro e w9 ⟨rfl, b9⟩
      have hT9 := Lib.hid (hT8.out.below b9)
      have HM := HS.out.below b9 HS.out.lt
      have m0 := HM.cell 0
      have m1 := HM.cell 1
      simp at m0 m1
      clear k0 k1
      clear HM hT8 q b9 HS
      cases hpk : p k
      · obtain ⟨e1, e2⟩ := hn'.out hpk
        clear hy' hn' hpk
        go_wp2_with
          (at_builtin
           go_loud (refine wpList_append_two1 w9 rfl (.tmp 23) (.tmp 25) rfl i0 zz Tryz.underlying22 hi hz h6 h72 hz6 (by decide) mkC_len (by decide) (fun x u hu => mkcells_one (l := [x]) (by simpa [mkcells] using hu)) w _ _ L2 L1 hT9.out.symm X _ rfl rfl _ rfl rfl hc2 ?_)
           intro v2 g2 T2
           have T2' := Lib.hid T2.symm
           clear T2 hT9)
        go_roundw
        case rel => exact ⟨k + 1, by omega, by go_num, Lib.hid (by rw [hM1.out, hM2.out, e1, e2]; exact T2'.out)⟩
        case measure => simp [intOf]; omega
      · obtain ⟨e1, e2⟩ := hy'.out hpk
        clear hy' hn' hpk
        go_wp2_with
          (at_builtin
           go_loud (refine wpList_append_two1 w9 rfl (.tmp 19) (.tmp 21) rfl i0 zz Tryz.underlying22 hi hz h6 h72 hz6 (by decide) mkC_len (by decide) (fun x u hu => mkcells_one (l := [x]) (by simpa [mkcells] using hu)) w _ _ L1 L2 hT9.out X _ rfl rfl _ rfl rfl hc1 ?_)
           intro v2 g2 T2
           have T2' := Lib.hid T2
           clear T2 hT9)
        go_roundw
        case rel => exact ⟨k + 1, by omega, by go_num, Lib.hid (by rw [hM1.out, hM2.out, e1, e2]; exact T2'.out)⟩
        case measure => simp [intOf]; omega
    · have hki : ¬ (k : Int) < (n : Int) := by omega
      have hke : k = n := by omega
      subst hke
      clear hll hyes hno hF
      go_wp2
      refine bodyPost_ret (results_tmp2 rfl _ _ _) rfl ?_
      exact ⟨_, _, rfl, hT.out⟩
end Go.Proofs.YtpchncpcckfghaaGreat
namespace Go.Proofs.YtpchncpcckfghaaGreat
open Go.RowKit
set_option linter.unusedVariables false
set_option linter.unusedSimpArgs false
set_option maxRecDepth 100000 in
set_option maxHeartbeats 1000000 in
theorem match2_any (w : World) (a : Option Addr) (n c gs : Nat) (ps : List Int) (T : TypeId) (hn : n ≤ 4096) (hl : n = ps.length) (hs : ∀ t j, t ≤ j → j < n → ps.getD t 0 ≤ ps.getD j 0) (hp : Sees .u64 w.heap.size w a ps) (hg : Holds w gs T #[.slice a n c]) (k : Int) (f : Int) (s : ByteArray) :
    Calls Tryz.prog 37 #[.int .i64 k, .agg #[.int .u64 f, .string s], .pointer (some ⟨gs, 0, none⟩)] w (Gives (.bool (decide (f ∈ ps))) w) := by
  obtain ⟨V, hV⟩ : ∃ V, V = w.alloc (.cells #[.int .u64 f, .string s] 40) := ⟨_, rfl⟩
  have bV : Below w.heap.size w V := by rw [hV]; exact box_below _ _ _
  have HB : Holds V w.heap.size 40 #[.int .u64 f, .string s] := by rw [hV]; exact Holds.new _ _ _
  have HG := hg.below bV hg.lt
  have x0 := HB.cell 0
  have y0 := HG.cell 0
  simp at x0 y0
  have q := Lib.hid (bs64_any a n c ps f hn hl hs V ((hp.below bV).mono bV.size))
  generalize decide (f ∈ ps) = E at *
  have hV' := Lib.hid hV
  have bV' := Lib.hid bV
  clear hV bV HB HG hg hp hs
  go_enter Tryz.func37, Tryz.ntmps37
  go_upto_region 1 with (fail)
  rw [← hV'.out]
  clear hl hn
  go_wp2_with fail
  refine q.out.mono ?_
  rintro e w1 ⟨⟨i, rfl⟩, hw1⟩
  subst hw1
  go_wp2
  exact bodyPost_ret (results_tmp rfl _ _ _) rfl ⟨rfl, bV'.out⟩
set_option maxRecDepth 100000 in
set_option maxHeartbeats 1000000 in
theorem match1_any (w : World) (a : Option Addr) (n c gl : Nat) (l : List MkD) (hn : n ≤ 4096) (hr : riseM l) (h : RO mkC w a n c l) (T T2 : TypeId) (hg : Holds w gl T #[.slice a n c])
    (ap : Option Addr) (np cp gp : Nat) (ps : List Int) (hl : np = ps.length) (hp : Sees .u64 w.heap.size w ap ps) (hg2 : Holds w gp T2 #[.slice ap np cp]) (hm : np ≤ 4096) (k : Nat) (hk : k < np) (x : AlD) :
    Calls Tryz.prog 34 #[.int .i64 k, .agg #[.int .i64 x.kind, .int .i64 x.sev, .string x.fn, .string x.file, .int .i64 x.line, .string x.expr], .pointer (some ⟨gl, 0, none⟩), .pointer (some ⟨gp, 0, none⟩)] w (Gives (.bool (hasB l (ps.getD k 0))) w) := by
  obtain ⟨V, hV⟩ : ∃ V, V = w.alloc (.cells #[.int .i64 x.kind, .int .i64 x.sev, .string x.fn, .string x.file, .int .i64 x.line, .string x.expr] 54) := ⟨_, rfl⟩
  have bV : Below w.heap.size w V := by rw [hV]; exact box_below _ _ _
  have HG := hg.below bV hg.lt
  have HG2 := hg2.below bV hg2.lt
  have y0 := HG.cell 0
  have y1 := HG2.cell 0
  simp at y0 y1
  have hkl : k < ps.length := by omega
  have hkn : (k : Int) < (np : Int) := by omega
  obtain ⟨b, off, rfl, hbl, z0⟩ : ∃ b off, ap = some ⟨b, off, none⟩ ∧ b < V.heap.size ∧ V.cell? ⟨b, off + k, none⟩ = some (.int .u64 (ps.getD k 0)) := by
    rcases (hp.below bV).mono bV.size with e | ⟨b, off, e, hb, hc⟩
    · rw [e] at hkl; simp at hkl
    · exact ⟨b, off, e, hb, hc k hkl⟩
  generalize ps.getD k 0 = f at *
  have h0 : ∀ W, Below V.heap.size V W → W.cell? ⟨gl, 0, none⟩ = some (.slice a n c) := fun W hW => (hW.cell (p := ⟨gl, 0, none⟩) HG.lt).trans y0
  have h1 : ∀ W, Below V.heap.size V W → W.cell? ⟨gp, 0, none⟩ = some (.slice (some ⟨b, off, none⟩) np cp) := fun W hW => (hW.cell (p := ⟨gp, 0, none⟩) HG2.lt).trans y1
  have h2 : ∀ W, Below V.heap.size V W → W.cell? ⟨b, off + k, none⟩ = some (.int .u64 f) := fun W hW => (hW.cell (p := ⟨b, off + k, none⟩) hbl).trans z0
  have q := Lib.hid (fun W hW => bfind_any a n c l f hn hr W ((h.below bV).below hW))
  unfold MkE at q
  generalize (if hasB l f = true then f else 0) = f' at *
  generalize (look l f).getD ⟨#[]⟩ = s' at *
  generalize hasB l f = B at *
  have hV' := Lib.hid hV
  have bV' := Lib.hid bV
  clear hV bV HG HG2 hg hg2 hp h y0 y1 z0
  go_enter Tryz.func34, Tryz.ntmps34
  go_upto_region 1 with (fail)
  rw [← hV'.out]
  go_wp2
  refine wp_drawn_on (fun W => Below V.heap.size V W) (by kernel_rfl) ((Below.refl _ _).drew) (fun hHeld => ?_)
  refine wT 0 (v := ?v1) rfl (by kernel_rfl) (fun _ _ _ h => h) ?h1 (by assumption) ?r1
  case h1 => (intro w hSw; (try dsimp only at hSw); go_simp; try with_reducible rfl)
  refine wT 1 (v := ?v2) rfl (by kernel_rfl) (fun _ _ _ h => h) ?h2 (by assumption) ?r2
  case h2 => (intro w hSw; (try dsimp only at hSw); go_simp; try with_reducible rfl)
  refine wT 2 (v := ?v3) rfl (by kernel_rfl) (fun _ _ _ h => h) ?h3 (by assumption) ?r3
  case h3 => (intro w hSw; (try dsimp only at hSw); go_simp; try with_reducible rfl)
  refine wT 3 (v := ?v4) rfl (by kernel_rfl) (fun _ _ _ h => h) ?h4 (by assumption) ?r4
  case h4 => (intro w hSw; (try dsimp only at hSw); go_simp; try with_reducible rfl)
  refine wT 4 (v := ?v5) rfl (by kernel_rfl) (fun _ _ _ h => h) ?h5 (by assumption) ?r5
  case h5 => (intro w hSw; (try dsimp only at hSw); go_simp; try with_reducible rfl)
  try simp only [Act.put, List.setIfInBounds_toArray, List.set_cons_zero, List.set_cons_succ]
  refine wpAnyH_ready (rs := [5, 9]) (by kernel_rfl) (by simp) ?_
  refine AllReadyH.cons (o := ⟨_, _, _, _, _, _⟩) rfl (fun K hK => ?_) (AllReadyH.cons (o := ⟨_, _, _, _, _, _⟩) rfl (fun K hK => ?_) AllReadyH.nil)
  · go_simp
    with_reducible refine (q.out _ hHeld).mono ?_
    rintro e w5 ⟨rfl, b5⟩
    have hx5 := hHeld.trans (b5.mono hHeld.size)
    go_simp
    refine hK.out _ _ (hx5) (fun hHeld => ?_)
    clear hK K
    refine wT 6 (v := ?v6) rfl (by kernel_rfl) (fun _ _ _ h => h) ?h6 (by assumption) ?r6
    case h6 => (intro w hSw; (try dsimp only at hSw); go_simp; try with_reducible rfl)
    refine wT 7 (v := ?v7) rfl (by kernel_rfl) (fun _ _ _ h => h) ?h7 (by assumption) ?r7
    case h7 => (intro w hSw; (try dsimp only at hSw); go_simp; try with_reducible rfl)
    refine wT 8 (v := ?v8) rfl (by kernel_rfl) (fun _ _ _ h => h) ?h8 (by assumption) ?r8
    case h8 => (intro w hSw; (try dsimp only at hSw); go_simp; try with_reducible rfl)
    try simp only [Act.put, List.setIfInBounds_toArray, List.set_cons_zero, List.set_cons_succ]
    refine wpAnyH_ready (rs := [9]) (by kernel_rfl) (by simp) ?_
    refine AllReadyH.cons (o := ⟨_, _, _, _, _, _⟩) rfl (fun K hK => ?_) AllReadyH.nil
    go_simp
    have hx9 := hHeld.alloc hHeld.size (.cells #[.int .u64 0, .string ⟨#[]⟩] 40)
    first | have hzA := Holds.new w5 40 #[.int .u64 0, .string ⟨#[]⟩] | have hz9 := Holds.new V 40 #[.int .u64 0, .string ⟨#[]⟩]
    refine hK.out _ _ (hx9) (fun hHeld => ?_)
    clear hK K
    try simp only [Act.put, List.setIfInBounds_toArray, List.set_cons_zero, List.set_cons_succ]
    refine wpAnyH_ready (rs := [10]) (by kernel_rfl) (by simp) ?_
    refine AllReadyH.cons (o := ⟨_, _, _, _, _, _⟩) rfl (fun K hK => ?_) AllReadyH.nil
    first | (have hzB := Holds.below (g := V.heap.size) hz9.drew b5 hz9.lt; have q0 := hzB.cell 0; have q1 := hzB.cell 1; have r0 := hzB.free 0; have r1 := hzB.free 1; simp at q0 q1; go_simp; have hx10 := bl_set (bl_set hHeld (p := ⟨V.heap.size, 0, none⟩) (Nat.le_refl _) (.int .u64 f')) (p := ⟨V.heap.size, 1, none⟩) (Nat.le_refl _) (.string s'); generalize (w5.setCell ⟨V.heap.size, 0, none⟩ (.int .u64 f')).setCell ⟨V.heap.size, 1, none⟩ (.string s') = w10 at hx10 ⊢; clear q0 q1 r0 r1 hzB hz9) | (go_simp; have hx10 := hx5.alloc hx5.size (.cells #[.int .u64 f', .string s'] 40); generalize w5.alloc (.cells #[.int .u64 f', .string s'] 40) = w10 at hx10 ⊢; clear hzA)
    refine hK.out _ _ (hx10) (fun hHeld => ?_)
    clear hK K
    refine wT 11 (v := ?v9) rfl (by kernel_rfl) (fun _ _ _ h => h) ?h9 (by assumption) ?r9
    case h9 => (intro w hSw; (try dsimp only at hSw); go_simp; try with_reducible rfl)
    try simp only [Act.put, List.setIfInBounds_toArray, List.set_cons_zero, List.set_cons_succ]
    refine wpAnyH_done (by kernel_rfl) ?_ _
    clear h0 h1 h2 hx9
    go_wp2
    go_ret
    exact ⟨rfl, bV'.out.trans (hHeld.mono bV'.out.size)⟩
  · go_simp
    have hx9 := hHeld.alloc hHeld.size (.cells #[.int .u64 0, .string ⟨#[]⟩] 40)
    first | have hzA := Holds.new w5 40 #[.int .u64 0, .string ⟨#[]⟩] | have hz9 := Holds.new V 40 #[.int .u64 0, .string ⟨#[]⟩]
    refine hK.out _ _ (hx9) (fun hHeld => ?_)
    clear hK K
    try simp only [Act.put, List.setIfInBounds_toArray, List.set_cons_zero, List.set_cons_succ]
    refine wpAnyH_ready (rs := [5]) (by kernel_rfl) (by simp) ?_
    refine AllReadyH.cons (o := ⟨_, _, _, _, _, _⟩) rfl (fun K hK => ?_) AllReadyH.nil
    go_simp
    with_reducible refine (q.out _ hHeld).mono ?_
    rintro e w5 ⟨rfl, b5⟩
    have hx5 := hHeld.trans (b5.mono hHeld.size)
    go_simp
    refine hK.out _ _ (hx5) (fun hHeld => ?_)
    clear hK K
    refine wT 6 (v := ?v10) rfl (by kernel_rfl) (fun _ _ _ h => h) ?h10 (by assumption) ?r10
    case h10 => (intro w hSw; (try dsimp only at hSw); go_simp; try with_reducible rfl)
    refine wT 7 (v := ?v11) rfl (by kernel_rfl) (fun _ _ _ h => h) ?h11 (by assumption) ?r11
    case h11 => (intro w hSw; (try dsimp only at hSw); go_simp; try with_reducible rfl)
    refine wT 8 (v := ?v12) rfl (by kernel_rfl) (fun _ _ _ h => h) ?h12 (by assumption) ?r12
    case h12 => (intro w hSw; (try dsimp only at hSw); go_simp; try with_reducible rfl)
    try simp only [Act.put, List.setIfInBounds_toArray, List.set_cons_zero, List.set_cons_succ]
    refine wpAnyH_ready (rs := [10]) (by kernel_rfl) (by simp) ?_
    refine AllReadyH.cons (o := ⟨_, _, _, _, _, _⟩) rfl (fun K hK => ?_) AllReadyH.nil
    first | (have hzB := Holds.below (g := V.heap.size) hz9.drew b5 hz9.lt; have q0 := hzB.cell 0; have q1 := hzB.cell 1; have r0 := hzB.free 0; have r1 := hzB.free 1; simp at q0 q1; go_simp; have hx10 := bl_set (bl_set hHeld (p := ⟨V.heap.size, 0, none⟩) (Nat.le_refl _) (.int .u64 f')) (p := ⟨V.heap.size, 1, none⟩) (Nat.le_refl _) (.string s'); generalize (w5.setCell ⟨V.heap.size, 0, none⟩ (.int .u64 f')).setCell ⟨V.heap.size, 1, none⟩ (.string s') = w10 at hx10 ⊢; clear q0 q1 r0 r1 hzB hz9) | (go_simp; have hx10 := hx5.alloc hx5.size (.cells #[.int .u64 f', .string s'] 40); generalize w5.alloc (.cells #[.int .u64 f', .string s'] 40) = w10 at hx10 ⊢; clear hzA)
    refine hK.out _ _ (hx10) (fun hHeld => ?_)
    clear hK K
    refine wT 11 (v := ?v13) rfl (by kernel_rfl) (fun _ _ _ h => h) ?h13 (by assumption) ?r13
    case h13 => (intro w hSw; (try dsimp only at hSw); go_simp; try with_reducible rfl)
    try simp only [Act.put, List.setIfInBounds_toArray, List.set_cons_zero, List.set_cons_succ]
    refine wpAnyH_done (by kernel_rfl) ?_ _
    clear h0 h1 h2 hx9
    go_wp2
    go_ret
    exact ⟨rfl, bV'.out.trans (hHeld.mono bV'.out.size)⟩
end Go.Proofs.YtpchncpcckfghaaGreat
namespace Go.Proofs.YtpchncpcckfghaaGreat
open Go.RowKit
set_option linter.unusedVariables false
def txts (l : List ByteArray) : List Value := l.map .string
theorem txts_add (a b : List ByteArray) : txts (a ++ b) = txts a ++ txts b := by simp [txts]
theorem infoStr : (Tryz.prog.info? 9).map (fun i => (i.zero, i.size, i.bytes)) = some (some (.string ⟨#[]⟩), 1, 16) := by kernel_rfl
def SeesT (B : Nat) (w : World) (a : Option Addr) (l : List ByteArray) : Prop :=
  l = [] ∨ ∃ b off, a = some ⟨b, off, none⟩ ∧ b < B ∧ ∀ i, i < l.length → w.cell? ⟨b, off + i, none⟩ = some (.string (l.getD i ⟨#[]⟩))
theorem SeesT.below {B : Nat} {w w' : World} {a : Option Addr} {l : List ByteArray} (h : SeesT B w a l) (hb : Below B w w') : SeesT B w' a l := by
  rcases h with h | ⟨b, off, rfl, hB, hc⟩
  · exact .inl h
  · exact .inr ⟨b, off, rfl, hB, fun i hi => (hb.cell (p := ⟨b, off + i, none⟩) hB).trans (hc i hi)⟩
theorem SeesT.mono {B B' : Nat} {w : World} {a : Option Addr} {l : List ByteArray} (h : SeesT B w a l) (hb : B ≤ B') : SeesT B' w a l := by
  rcases h with h | ⟨b, off, rfl, hB, hx⟩
  · exact .inl h
  · exact .inr ⟨b, off, rfl, by omega, hx⟩
theorem sees_ownT {w : World} {base : Nat} {e : TypeId} {v : Value} {n : Nat} {l : List ByteArray} (h : w.ownsRow base e 1 v n (txts l)) :
    ∃ a cap, v = .slice a l.length cap ∧ n = l.length ∧ SeesT w.heap.size w a l := by
  have hn : n = l.length := by have := h.1; simp [txts] at this; omega
  rcases h.2 with ⟨rfl, h0⟩ | ⟨g, cap, cur, rfl, _, hg, _⟩
  · subst hn
    exact ⟨none, 0, by rw [h0], rfl, .inl (List.eq_nil_of_length_eq_zero h0)⟩
  · subst hn
    refine ⟨_, cap, rfl, rfl, .inr ⟨g, 0, rfl, (Array.getElem?_eq_some_iff.1 hg).1, fun i hi => ?_⟩⟩
    have := h.cells (g := g) rfl i (.string (l.getD i ⟨#[]⟩)) (by simp [txts, List.getD, hi])
    have h2 : (⟨g, 0, none⟩ : Addr).add i = ⟨g, 0 + i, none⟩ := by unfold Addr.add; split <;> simp_all
    rw [h2] at this
    exact this
theorem run_append_text {P : Program} (w : World) (t ty e : TypeId) (i : TypeInfo) (z : Value) (bytes : Nat) (ht : P.underlying t = some (.slice e)) (hi : P.info? e = some i) (hz : i.zero = some z)
    (hsize : i.size = 1) (hby : i.bytes = bytes) (hzs : z.cells.size = 1)
    (v : Value) (l : List ByteArray) (hown : w.ownsRow 0 e 1 v l.length (txts l)) (ad : Addr) (s : ByteArray) (c : Nat) (hs : w.cell? ad = some (.string s))
    (hn : l.length + 1 ≤ maxLen) (hby2 : (l.length + 1) * bytes ≤ 140737488355328) :
    ∃ v' w', (Builtin.append_ #[t, t] ty #[v, .slice (some ad) 1 c]).run P w = .ok v' w' ∧ w'.ownsRow 0 e 1 v' (l ++ [s]).length (txts (l ++ [s])) ∧ w.grownBy w' v.ownBlock ∧ (v'.ownBlock = v.ownBlock ∨ v'.ownBlock = some w.heap.size) := by
  obtain ⟨v', w', hrun, h2, h3, _, h5⟩ := run_append_own_at (P := P) w 0 t ty e i z 1 bytes ht hi hz hsize hby hzs (by omega) v l.length (txts l) hown ad 1 c [.string s] (by simp) (fun j u hj => by
    have : j = 0 := by have := (List.getElem?_eq_some_iff.1 hj).1; simp at this; omega
    subst this
    simp at hj
    subst hj
    have h2 : ad.add 0 = ad := by simp [Addr.add]
    rw [h2]; exact hs) (fun u hu => by simp at hu; subst hu; rfl) hn hby2 (Nat.zero_le _)
  refine ⟨v', w', hrun, ?_, h3, h5⟩
  rw [List.length_append, txts_add]; exact h2
theorem wpList_append_text {P : Program} (w : World) {ops : Array Oper} {rest : List Oper} {o : Oper} {a : Act} {Q : Exit → Act → World → Prop}
    (hg : o.guard = none) (s x : Operand) (t : TypeId) (hop : o.op = Op.call { callee := Callee.builtin Builtin.append, args := #[s, x], argTypes := #[t, t] })
    (e : TypeId) (i : TypeInfo) (z : Value) (bytes : Nat) (ht : P.underlying t = some (.slice e)) (hi : P.info? e = some i) (hz : i.zero = some z)
    (hsize : i.size = 1) (hby : i.bytes = bytes) (hzs : z.cells.size = 1)
    (v : Value) (l : List ByteArray) (hown : w.ownsRow 0 e 1 v l.length (txts l)) (ad : Addr) (tx : ByteArray) (c : Nat) (hs : w.cell? ad = some (.string tx))
    (hsv : a.eval s = v) (hx : a.eval x = .slice (some ad) 1 c) (hn : l.length + 1 ≤ maxLen) (hby2 : (l.length + 1) * bytes ≤ 140737488355328)
    (hK : ∀ v' w', w'.ownsRow 0 e 1 v' (l ++ [tx]).length (txts (l ++ [tx])) → w.grownBy w' v.ownBlock → (v'.ownBlock = v.ownBlock ∨ v'.ownBlock = some w.heap.size) → wpList P ops Q rest (a.put o.dst v') w') :
    wpList P ops Q (o :: rest) a w := by
  obtain ⟨v', w', hrun, h1, h2, h3⟩ := run_append_text (P := P) w t o.type e i z bytes ht hi hz hsize hby hzs v l hown ad tx c hs hn hby2
  refine wpList_plain hg fun K hK' => ?_
  unfold Oper.wp
  simp [execOp, hop, resolve, invoke, builtin, hsv, hx, hrun, Result.andThen]
  exact hK' _ _ (hK v' w' h1 h2 h3)
end Go.Proofs.YtpchncpcckfghaaGreat
namespace Go.Proofs.YtpchncpcckfghaaGreat
open Go.RowKit Go.ChangeShapes Go.WideShapes Go.Deep
set_option linter.unusedVariables false
set_option linter.unusedSimpArgs false
abbrev e0 : ByteArray := ⟨#[]⟩
structure TT (w : World) (a : Option Addr) (n c : Nat) (l : List ByteArray) : Prop where
  len : n = l.length
  cap : n ≤ c
  max : c ≤ maxLen
  sees : SeesT w.heap.size w a l
theorem TT.below {w w' : World} {a : Option Addr} {n c : Nat} {l : List ByteArray} (h : TT w a n c l) (hb : Below w.heap.size w w') : TT w' a n c l := ⟨h.len, h.cap, h.max, (h.sees.below hb).mono hb.size⟩
theorem TT.drewN {w : World} {a : Option Addr} {n c : Nat} {l : List ByteArray} (h : TT w a n c l) (m : Nat) : TT (w.drewN m) a n c l := ⟨h.len, h.cap, h.max, h.sees⟩
theorem TT.at_ {w : World} {a : Option Addr} {n c : Nat} {l : List ByteArray} (h : TT w a n c l) {k : Nat} (hk : k < l.length) : ∃ b off, a = some ⟨b, off, none⟩ ∧ b < w.heap.size ∧ ∀ i, i < l.length → w.cell? ⟨b, off + i, none⟩ = some (.string (l.getD i e0)) := by
  rcases h.sees with e | ⟨b, off, rfl, hb, hc⟩
  · subst e; simp at hk
  · exact ⟨b, off, rfl, hb, hc⟩
end Go.Proofs.YtpchncpcckfghaaGreat
namespace Go.Proofs.YtpchncpcckfghaaGreat
open Go.RowKit
set_option linter.unusedVariables false
set_option linter.unusedSimpArgs false
structure SpV where
  k : Option Addr
  kn : Nat
  kc : Nat
  f : Option Addr
  fn : Nat
  fc : Nat
  m : Option Addr
  mn : Nat
  mc : Nat
  s : Option Addr
  sn : Nat
  sc : Nat
structure SpD where
  k : List AlD
  f : List AlD
  m : List MkD
  s : List MkD
def SpV.cells (v : SpV) : Array Value := #[.slice v.k v.kn v.kc, .slice v.f v.fn v.fc, .slice v.m v.mn v.mc, .slice v.s v.sn v.sc]
structure SpR (w : World) (v : SpV) (d : SpD) : Prop where
  k : RO alC w v.k v.kn v.kc d.k
  f : RO alC w v.f v.fn v.fc d.f
  m : RO mkC w v.m v.mn v.mc d.m
  s : RO mkC w v.s v.sn v.sc d.s
theorem SpR.below {w w' : World} {v : SpV} {d : SpD} (h : SpR w v d) (hb : Below w.heap.size w w') : SpR w' v d := ⟨h.k.below hb, h.f.below hb, h.m.below hb, h.s.below hb⟩
end Go.Proofs.YtpchncpcckfghaaGreat
namespace Go.Proofs.YtpchncpcckfghaaGreat
open Go.Sort
set_option linter.unusedVariables false
set_option linter.unusedSimpArgs false
theorem Cm.on {α β : Type} {c : α → α → Int} {E : α → α → Prop} (h : Cm c E) (g : β → α) : Cm (fun a b => c (g a) (g b)) (fun a b => E (g a) (g b)) :=
  ⟨fun a b => h.range _ _, fun a b => h.zero _ _, fun a b => h.anti _ _, fun a b d => h.trans _ _ _⟩
theorem Cm.swo {α : Type} {c : α → α → Int} (h : Cm c (fun a b => a = b)) : SWO (ltOf c) where
  irrefl x := by
    unfold ltOf
    rw [(h.zero x x).2 rfl]
    rfl
  trans x y z h1 h2 := by
    unfold ltOf at *
    have q := h.trans x y z
    have q2 := h.trans z x y
    have a1 := h.anti x y
    have a2 := h.anti y z
    have a3 := h.anti x z
    simp at h1 h2 ⊢
    omega
  ntrans x y z h1 h2 := by
    unfold ltOf at *
    have q := h.trans z y x
    have a1 := h.anti x y
    have a2 := h.anti y z
    have a3 := h.anti x z
    simp at h1 h2 ⊢
    omega
theorem Cm.tot {α : Type} {c : α → α → Int} (h : Cm c (fun a b => a = b)) (x y : α) (h1 : ltOf c x y = false) (h2 : ltOf c y x = false) : x = y := by
  unfold ltOf at *
  have a1 := h.anti x y
  simp at h1 h2
  exact (h.zero x y).1 (by omega)
def cfF (l : List AlD) (d : AlD) (n : Nat) (i j : Fin n) : Int := thenC (cmpA (l.getD i.val d) (l.getD j.val d)) (cmpZ (i.val : Int) (j.val : Int))
theorem cmF (l : List AlD) (d : AlD) (n : Nat) : Cm (cfF l d n) (fun a b => a = b) := by
  have h := (cmA.on (fun i : Fin n => l.getD i.val d)).lex (cmZ (fun i : Fin n => (i.val : Int)))
  refine ⟨h.range, fun a b => (h.zero a b).trans ⟨fun ⟨_, h2⟩ => Fin.ext (by omega), fun e => by subst e; exact ⟨rfl, rfl⟩⟩, h.anti, h.trans⟩
theorem cf_ahead (l : List AlD) (d : AlD) (n : Nat) (i j : Fin n) : ltOf (cfF l d n) i j = aheadB cmpA l d i.val j.val := by
  unfold ltOf cfF aheadB thenC cmpZ
  by_cases h0 : cmpA (l.getD i.val d) (l.getD j.val d) = 0
  · rw [if_pos h0, h0]
    by_cases h1 : i.val < j.val
    · simp [h1]
    · simp [h1]
      split <;> omega
  · rw [if_neg h0, decide_eq_false h0]
    simp
def placesF (l : List AlD) (d : AlD) (n : Nat) : List Nat := ((List.finRange n).mergeSort fun x y => !(ltOf (cfF l d n)) y x).map fun i => i.val
theorem places_perm (l : List AlD) (d : AlD) (n : Nat) : (placesF l d n).Perm (List.range n) := by
  have h := (List.mergeSort_perm (List.finRange n) (fun x y => !(ltOf (cfF l d n)) y x)).map (fun i : Fin n => i.val)
  have e : (List.finRange n).map (fun i : Fin n => i.val) = List.range n := by
    apply List.ext_getElem
    · simp
    · intro i a b
      simp
  rw [e] at h
  exact h
theorem places_len (l : List AlD) (d : AlD) (n : Nat) : (placesF l d n).length = n := by have := (places_perm l d n).length_eq; simpa using this
theorem places_pair (l : List AlD) (d : AlD) (n : Nat) : (placesF l d n).Pairwise fun a b => aheadB cmpA l d a b = true := by
  have hO := (cmF l d n).swo
  have h := List.pairwise_mergeSort (le := fun x y => !(ltOf (cfF l d n)) y x) (fun a b e h1 h2 => by
    simp only [Bool.not_eq_true'] at *
    exact hO.ntrans e b a h2 h1) (fun a b => by
    simp only [Bool.or_eq_true, Bool.not_eq_true']
    cases h : ltOf (cfF l d n) b a
    · exact .inl rfl
    · right
      cases h2 : ltOf (cfF l d n) a b
      · rfl
      · have := hO.trans a b a h2 h
        rw [hO.irrefl] at this
        cases this) (List.finRange n)
  have hnd : ((List.finRange n).mergeSort (fun x y => !(ltOf (cfF l d n)) y x)).Nodup := (List.mergeSort_perm _ _).nodup_iff.2 (List.nodup_finRange n)
  unfold placesF
  rw [List.pairwise_map]
  refine (h.and hnd).imp fun {a b} ⟨x, y⟩ => ?_
  rw [← cf_ahead l d n]
  cases h2 : ltOf (cfF l d n) a b
  · exact absurd ((cmF l d n).tot a b h2 (by simpa using x)) y
  · rfl
theorem places_rank {K : Type} [DecidableEq K] (key : AlD → K) (l : List AlD) (d : AlD) {t : Nat} (ht : t < l.length) :
    rankL cmpA key l d ((placesF l d l.length).getD t 0) = ((placesF l d l.length).take t).countP fun j => decide (key (l.getD j d) = key (l.getD ((placesF l d l.length).getD t 0) d)) := by
  have hlen := places_len l d l.length
  refine rank_row cmA key (places_perm l d l.length) (places_pair l d l.length) (q := (placesF l d l.length).drop (t + 1)) ?_
  have e : (placesF l d l.length).getD t 0 = (placesF l d l.length)[t]'(by omega) := by simp [List.getD, hlen, ht]
  rw [e, ← List.drop_eq_getElem_cons (by omega), List.take_append_drop]
theorem places_lt (l : List AlD) (d : AlD) (n : Nat) {t : Nat} (ht : t < n) : (placesF l d n).getD t 0 < n := by
  have hlen := places_len l d n
  have h : (placesF l d n).getD t 0 ∈ placesF l d n := by simp [List.getD, hlen, ht]
  have := (places_perm l d n).mem_iff.1 h
  simpa using this
theorem places_at (l : List AlD) (d : AlD) (n : Nat) {i : Nat} (hi : i < n) : ∃ t, t < n ∧ (placesF l d n).getD t 0 = i := by
  have hlen := places_len l d n
  have h : i ∈ placesF l d n := (places_perm l d n).mem_iff.2 (by simpa using hi)
  obtain ⟨t, ht, e⟩ := List.getElem_of_mem h
  exact ⟨t, by omega, by simp [List.getD, ht, e]⟩
end Go.Proofs.YtpchncpcckfghaaGreat
namespace Go.Proofs.YtpchncpcckfghaaGreat
open Go.RowKit
set_option linter.unusedVariables false
set_option linter.unusedSimpArgs false
def letB (c : Int) : Bool := decide ((97 ≤ c ∧ c ≤ 122) ∨ (65 ≤ c ∧ c ≤ 90) ∨ c = 95)
def wdB (c : Int) : Bool := letB c || decide ((48 ≤ c ∧ c ≤ 57) ∨ c = 46)
set_option maxHeartbeats 1000000 in
theorem wordByte_any (c : Int) (h0 : 0 ≤ c) (h1 : c ≤ 255) (w : World) :
    Calls Tryz.prog 115 #[.int .u8 c] w fun e w' => e = .returned (.bool (wdB c)) ∧ w = w' := by
  by_cases r0 : c ≤ 45
  · have hv : wdB c = false := by simp [wdB, letB]; omega
    rw [hv]
    have a0 : ¬ 97 ≤ c := by omega
    have a1 : c ≤ 122 := by omega
    have a2 : ¬ 65 ≤ c := by omega
    have a3 : c ≤ 90 := by omega
    have a4 : (c == 95) = false := by simp; omega
    have b4 : ¬ c = 95 := by omega
    have a5 : ¬ 48 ≤ c := by omega
    have a6 : c ≤ 57 := by omega
    have a7 : (c == 46) = false := by simp; omega
    have b7 : ¬ c = 46 := by omega
    clear hv
    go_enter Tryz.func115, Tryz.ntmps115
    go_wp2
    go_ret
    first | exact ⟨rfl, rfl⟩ | exact ⟨by simp; omega, rfl⟩
  by_cases r46 : c ≤ 46
  · have hv : wdB c = true := by simp [wdB, letB]; omega
    rw [hv]
    obtain rfl : c = 46 := by omega
    clear hv
    go_enter Tryz.func115, Tryz.ntmps115
    go_wp2
    go_ret
    first | exact ⟨rfl, rfl⟩ | exact ⟨by simp; omega, rfl⟩
  by_cases r47 : c ≤ 47
  · have hv : wdB c = false := by simp [wdB, letB]; omega
    rw [hv]
    obtain rfl : c = 47 := by omega
    clear hv
    go_enter Tryz.func115, Tryz.ntmps115
    go_wp2
    go_ret
    first | exact ⟨rfl, rfl⟩ | exact ⟨by simp; omega, rfl⟩
  by_cases r48 : c ≤ 57
  · have hv : wdB c = true := by simp [wdB, letB]; omega
    rw [hv]
    have a0 : ¬ 97 ≤ c := by omega
    have a1 : c ≤ 122 := by omega
    have a2 : ¬ 65 ≤ c := by omega
    have a3 : c ≤ 90 := by omega
    have a4 : (c == 95) = false := by simp; omega
    have b4 : ¬ c = 95 := by omega
    have a5 : 48 ≤ c := by omega
    have a6 : c ≤ 57 := by omega
    have a7 : (c == 46) = false := by simp; omega
    have b7 : ¬ c = 46 := by omega
    clear hv
    go_enter Tryz.func115, Tryz.ntmps115
    go_wp2
    go_ret
    first | exact ⟨rfl, rfl⟩ | exact ⟨by simp; omega, rfl⟩
  by_cases r58 : c ≤ 64
  · have hv : wdB c = false := by simp [wdB, letB]; omega
    rw [hv]
    have a0 : ¬ 97 ≤ c := by omega
    have a1 : c ≤ 122 := by omega
    have a2 : ¬ 65 ≤ c := by omega
    have a3 : c ≤ 90 := by omega
    have a4 : (c == 95) = false := by simp; omega
    have b4 : ¬ c = 95 := by omega
    have a5 : 48 ≤ c := by omega
    have a6 : ¬ c ≤ 57 := by omega
    have a7 : (c == 46) = false := by simp; omega
    have b7 : ¬ c = 46 := by omega
    clear hv
    go_enter Tryz.func115, Tryz.ntmps115
    go_wp2
    go_ret
    first | exact ⟨rfl, rfl⟩ | exact ⟨by simp; omega, rfl⟩
  by_cases r65 : c ≤ 90
  · have hv : wdB c = true := by simp [wdB, letB]; omega
    rw [hv]
    have a0 : ¬ 97 ≤ c := by omega
    have a1 : c ≤ 122 := by omega
    have a2 : 65 ≤ c := by omega
    have a3 : c ≤ 90 := by omega
    have a4 : (c == 95) = false := by simp; omega
    have b4 : ¬ c = 95 := by omega
    have a5 : 48 ≤ c := by omega
    have a6 : ¬ c ≤ 57 := by omega
    have a7 : (c == 46) = false := by simp; omega
    have b7 : ¬ c = 46 := by omega
    clear hv
    go_enter Tryz.func115, Tryz.ntmps115
    go_wp2
    go_ret
    first | exact ⟨rfl, rfl⟩ | exact ⟨by simp; omega, rfl⟩
  by_cases r91 : c ≤ 94
  · have hv : wdB c = false := by simp [wdB, letB]; omega
    rw [hv]
    have a0 : ¬ 97 ≤ c := by omega
    have a1 : c ≤ 122 := by omega
    have a2 : 65 ≤ c := by omega
    have a3 : ¬ c ≤ 90 := by omega
    have a4 : (c == 95) = false := by simp; omega
    have b4 : ¬ c = 95 := by omega
    have a5 : 48 ≤ c := by omega
    have a6 : ¬ c ≤ 57 := by omega
    have a7 : (c == 46) = false := by simp; omega
    have b7 : ¬ c = 46 := by omega
    clear hv
    go_enter Tryz.func115, Tryz.ntmps115
    go_wp2
    go_ret
    first | exact ⟨rfl, rfl⟩ | exact ⟨by simp; omega, rfl⟩
  by_cases r95 : c ≤ 95
  · have hv : wdB c = true := by simp [wdB, letB]; omega
    rw [hv]
    obtain rfl : c = 95 := by omega
    clear hv
    go_enter Tryz.func115, Tryz.ntmps115
    go_wp2
    go_ret
    first | exact ⟨rfl, rfl⟩ | exact ⟨by simp; omega, rfl⟩
  by_cases r96 : c ≤ 96
  · have hv : wdB c = false := by simp [wdB, letB]; omega
    rw [hv]
    obtain rfl : c = 96 := by omega
    clear hv
    go_enter Tryz.func115, Tryz.ntmps115
    go_wp2
    go_ret
    first | exact ⟨rfl, rfl⟩ | exact ⟨by simp; omega, rfl⟩
  by_cases r97 : c ≤ 122
  · have hv : wdB c = true := by simp [wdB, letB]; omega
    rw [hv]
    have a0 : 97 ≤ c := by omega
    have a1 : c ≤ 122 := by omega
    have a2 : 65 ≤ c := by omega
    have a3 : ¬ c ≤ 90 := by omega
    have a4 : (c == 95) = false := by simp; omega
    have b4 : ¬ c = 95 := by omega
    have a5 : 48 ≤ c := by omega
    have a6 : ¬ c ≤ 57 := by omega
    have a7 : (c == 46) = false := by simp; omega
    have b7 : ¬ c = 46 := by omega
    clear hv
    go_enter Tryz.func115, Tryz.ntmps115
    go_wp2
    go_ret
    first | exact ⟨rfl, rfl⟩ | exact ⟨by simp; omega, rfl⟩
  have hv : wdB c = false := by simp [wdB, letB]; omega
  rw [hv]
  have a0 : 97 ≤ c := by omega
  have a1 : ¬ c ≤ 122 := by omega
  have a2 : 65 ≤ c := by omega
  have a3 : ¬ c ≤ 90 := by omega
  have a4 : (c == 95) = false := by simp; omega
  have b4 : ¬ c = 95 := by omega
  have a5 : 48 ≤ c := by omega
  have a6 : ¬ c ≤ 57 := by omega
  have a7 : (c == 46) = false := by simp; omega
  have b7 : ¬ c = 46 := by omega
  clear hv
  go_enter Tryz.func115, Tryz.ntmps115
  go_wp2
  go_ret
  first | exact ⟨rfl, rfl⟩ | exact ⟨by simp; omega, rfl⟩
end Go.Proofs.YtpchncpcckfghaaGreat
namespace Go.Proofs.YtpchncpcckfghaaGreat
open Go.RowKit
set_option linter.unusedVariables false
set_option linter.unusedSimpArgs false
def partsL : List Int → List (List Int)
  | [] => []
  | c :: r => if wdB c = true then (c :: r.takeWhile wdB) :: partsL (r.dropWhile wdB) else if c = 32 then partsL r else [c] :: partsL r
termination_by l => l.length
decreasing_by
  all_goals simp_wf
  · have : (r.dropWhile wdB).length ≤ r.length := (List.dropWhile_sublist _).length_le
    omega
theorem partsL_nil : partsL [] = [] := by rw [partsL]
theorem partsL_word {c : Int} {r : List Int} (h : wdB c = true) : partsL (c :: r) = (c :: r.takeWhile wdB) :: partsL (r.dropWhile wdB) := by rw [partsL, if_pos h]
theorem partsL_blank {r : List Int} : partsL (32 :: r) = partsL r := by rw [partsL, if_neg (by decide), if_pos rfl]
theorem partsL_other {c : Int} {r : List Int} (h : wdB c = false) (h2 : c ≠ 32) : partsL (c :: r) = [c] :: partsL r := by rw [partsL, if_neg (by simp [h]), if_neg h2]
theorem take_run {p q : List Int} (hp : ∀ c ∈ p, wdB c = true) (hq : q = [] ∨ ∃ c r, q = c :: r ∧ wdB c = false) : (p ++ q).takeWhile wdB = p ∧ (p ++ q).dropWhile wdB = q := by
  induction p with
  | nil =>
    rcases hq with rfl | ⟨c, r, rfl, hc⟩
    · exact ⟨rfl, rfl⟩
    · simp [List.takeWhile_cons, List.dropWhile_cons, hc]
  | cons a p ih =>
    have ha := hp a (by simp)
    obtain ⟨h1, h2⟩ := ih (fun c hc => hp c (by simp [hc]))
    simp [List.takeWhile_cons, List.dropWhile_cons, ha, h1, h2]
theorem partsL_run {p q : List Int} (h0 : p ≠ []) (hp : ∀ c ∈ p, wdB c = true) (hq : q = [] ∨ ∃ c r, q = c :: r ∧ wdB c = false) : partsL (p ++ q) = p :: partsL q := by
  cases p with
  | nil => exact absurd rfl h0
  | cons a p =>
    have ha := hp a (by simp)
    obtain ⟨h1, h2⟩ := take_run (p := p) (q := q) (fun c hc => hp c (by simp [hc])) hq
    rw [List.cons_append, partsL_word ha, h1, h2]
end Go.Proofs.YtpchncpcckfghaaGreat
namespace Go.Proofs.YtpchncpcckfghaaGreat
open Go.RowKit
set_option linter.unusedVariables false
set_option linter.unusedSimpArgs false
theorem ix (s : ByteArray) (k : Nat) (hk : k < s.size) (W : World) : (Instr.index 9 (.string s) (.int .i64 (k : Int))).run Tryz.prog W = .ok (.int .u8 ((codes s).getD k 0)) W := by
  rw [run_index_string W 9 s .i64 (k : Int) Tryz.underlying9, dif_pos ⟨by omega, by omega⟩, codes_at s k hk]
  simp
end Go.Proofs.YtpchncpcckfghaaGreat
namespace Go.Proofs.YtpchncpcckfghaaGreat
open Go.RowKit
set_option linter.unusedVariables false
set_option linter.unusedSimpArgs false
theorem cut_codes (s : ByteArray) (i j : Nat) : s.extract i j = strOfNums (((codes s).take j).drop i) := by
  apply ByteArray.ext
  apply Array.toList_inj.1
  rw [ByteArray.data_extract, Array.toList_extract, List.extract_eq_take_drop, strOfNums_data]
  unfold codes
  rw [← List.map_take, ← List.map_drop, List.map_map]
  conv => lhs; rw [← List.map_id ((s.data.toList.drop i).take (j - i))]
  rw [List.drop_take]
  apply List.map_congr_left
  intro b _
  simp
theorem cut_lh (s : ByteArray) (i j : Nat) (h1 : i ≤ j) (h2 : j ≤ s.size) (W : World) : (Instr.slice 9 (.string s) (some (.int .i64 (i : Int))) (some (.int .i64 (j : Int))) none).run Tryz.prog W = .ok (.string (strOfNums (((codes s).take j).drop i))) W := by
  rw [← cut_codes]
  have := run_slice_string W 9 s .i64 .i64 (i : Int) (j : Int) Tryz.underlying9 (by omega) (by omega) (by omega)
  simpa using this
theorem cut_l (s : ByteArray) (i : Nat) (h1 : i ≤ s.size) (W : World) : (Instr.slice 9 (.string s) (some (.int .i64 (i : Int))) none none).run Tryz.prog W = .ok (.string (strOfNums ((codes s).drop i))) W := by
  have := run_slice_string_l W 9 s Tryz.underlying9 .i64 (i : Int) (by omega) (by omega)
  rw [this]
  simp only [Int.toNat_natCast]
  rw [cut_codes, List.take_of_length_le (by rw [codes_length]; exact Nat.le_refl _)]
def TRow (w : World) (B : Nat) (v : Value) (out : List (List Int)) : Prop := w.ownsRow 0 9 1 v (out.map strOfNums).length (txts (out.map strOfNums)) ∧ ∀ k, v.ownBlock = some k → B ≤ k
def GivesT (ls : List (List Int)) (w : World) (e : Ending) (w' : World) : Prop := ∃ v, e = .returned v ∧ TRow w' w.heap.size v ls ∧ Below w.heap.size w w'
end Go.Proofs.YtpchncpcckfghaaGreat
namespace Go.Proofs.YtpchncpcckfghaaGreat
open Go.RowKit
set_option linter.unusedVariables false
set_option linter.unusedSimpArgs false
theorem push {w wr w1 : World} {B : Nat} {v v' : Value} {out : List (List Int)} {x : List Int} (hr : TRow wr B v out) (hb : Below B w wr) (hBw : B ≤ wr.heap.size)
    (own1 : w1.ownsRow 0 9 1 v' (out.map strOfNums ++ [strOfNums x]).length (txts (out.map strOfNums ++ [strOfNums x])))
    (grow1 : (wr.alloc (.cells #[.string (strOfNums x)] 9)).grownBy w1 v.ownBlock) (blk1 : v'.ownBlock = v.ownBlock ∨ v'.ownBlock = some (wr.alloc (.cells #[.string (strOfNums x)] 9)).heap.size) :
    TRow w1 B v' (out ++ [x]) ∧ Below B w w1 := by
  have e : (out ++ [x]).map strOfNums = out.map strOfNums ++ [strOfNums x] := by simp
  refine ⟨⟨by rw [e]; exact own1, fun k hk => ?_⟩, ?_⟩
  · rcases blk1 with h | h
    · exact hr.2 k (by rw [← h]; exact hk)
    · rw [hk] at h
      simp at h
      omega
  · have h1 : Below B w (wr.alloc (.cells #[.string (strOfNums x)] 9)) := hb.alloc hBw _
    exact ((BelowE.of h1 (X := [])).grown grow1 (by simp; omega) (fun k hk hlt => by have := hr.2 k hk; omega)).none
set_option maxRecDepth 100000 in
set_option maxHeartbeats 2000000 in
theorem parts_any (s : ByteArray) (hs : s.size ≤ 100000) (w : World) : Calls Tryz.prog 114 #[.string s] w (GivesT (partsL (codes s)) w) := by
  obtain ⟨i0, hi, hz0, hz1, hz2⟩ := info_parts infoStr
  have hL' := Lib.hid (codes_length s)
  have hbs' := Lib.hid (codes_bs s)
  have hs' := Lib.hid hs
  have hsi : (s.size : Int) ≤ 100000 := by omega
  clear hs
  go_enter Tryz.func114, Tryz.ntmps114
  go_wp2
  go_step3
  go_wp2
  go_step3
  go_wp2
  go_loopg [3, 4] s.size (fun g v i wr => ∃ (k : Nat) (out : List (List Int)), k ≤ s.size ∧ s.size ≤ k + g ∧ i = .int .i64 k ∧ Hid (out.length ≤ k) ∧ Hid (TRow wr w.heap.size v out) ∧ Hid (out ++ partsL ((codes s).drop k) = partsL (codes s)) ∧ Hid (Below w.heap.size w wr))
  case atStart => exact ⟨0, [], by omega, by omega, rfl, Lib.hid (by simp), Lib.hid ⟨⟨rfl, .inl ⟨rfl, rfl⟩⟩, by simp [Value.ownBlock]⟩, Lib.hid (by simp), Lib.hid (Below.refl _ _)⟩
  case round =>
    obtain ⟨k, out, hk, hg, rfl, hok, hrow, hrel2, hB⟩ := hrel
    by_cases hlt : k < s.size
    · obtain ⟨G, rfl⟩ : ∃ G, gk = G + 1 := ⟨gk - 1, by omega⟩
      go_wp2
      go_loopg [3, 4] s.size (fun g2 v i wr2 => ∃ j : Nat, k ≤ j ∧ j < s.size ∧ s.size ≤ j + g2 ∧ v = u3 ∧ i = .int .i64 j ∧ wr2 = wr ∧ Hid (∀ c ∈ ((codes s).take j).drop k, wdB c = true))
      case atStart => exact ⟨k, Nat.le_refl _, hlt, by omega, rfl, rfl, rfl, Lib.hid (by intro c hc; rw [List.drop_of_length_le (by simp; omega)] at hc; simp at hc)⟩
      case round =>
        obtain ⟨j, hkj, hj, hgj, rfl, rfl, rfl, hall⟩ := hrel
        obtain ⟨g2, rfl⟩ : ∃ g2, gk = g2 + 1 := ⟨gk - 1, by omega⟩
        have gi := ix s j hj
        have hc2 := hbs'.out ((codes s).getD j 0) (by
          have : j < (codes s).length := by have := hL'.out; omega
          simp [List.getD, this])
        have hcall := Lib.hid (fun W => wordByte_any ((codes s).getD j 0) (by omega) (by omega) W)
        clear hc2
        have hch := Lib.hid (rfl : (codes s).getD j 0 = (codes s).getD j 0)
        have hjL : Hid (j < (codes s).length) := Lib.hid (by have := hL'.out; omega)
        have hdj : Hid ((codes s).drop j = (codes s).getD j 0 :: (codes s).drop (j + 1)) := Lib.hid (by
          have := hjL.out
          rw [List.drop_eq_getElem_cons this]
          simp [List.getD, this])
        have hall2 : wdB ((codes s).getD j 0) = true → ∀ c ∈ ((codes s).take (j + 1)).drop k, wdB c = true := by
          intro hw c hc
          have hq := hjL.out
          rw [List.take_succ_eq_append_getElem hq, List.drop_append_of_le_length (by simp; omega)] at hc
          rcases List.mem_append.1 hc with h | h
          · exact hall.out c h
          · simp at h
            rw [h]
            simpa [List.getD, hq] using hw
        have hall2' := Lib.hid hall2
        clear hall2 hch
        by_cases hw : wdB ((codes s).getD j 0) = true
        · have ha := Lib.hid (hall2'.out hw)
          rw [hw] at hcall
          clear hall2' hall hdj
          generalize (codes s).getD j 0 = ch at *
          clear hw
          by_cases hend : j + 1 = s.size
          · have hsl := cut_l s k hk
            have hfin : Hid (out ++ [(codes s).drop k] = partsL (codes s)) := Lib.hid (by
              rw [← hrel2.out]
              have h2 := partsL_run (p := (codes s).drop k) (q := []) (by intro e; have := congrArg List.length e; simp at this; have := hL'.out; omega) (by
                have := ha.out
                rw [List.take_of_length_le (by have := hL'.out; omega)] at this
                exact this) (.inl rfl)
              rw [List.append_nil] at h2
              rw [h2, partsL_nil])
            have hei : (j : Int) + 1 = (s.size : Int) := by omega
            clear ha hgj hg
            go_wp2_with fail
            refine (hcall.out _).mono ?_
            rintro e w' ⟨rfl, rfl⟩
            go_wp2_with (at_builtin; refine wpList_append_text _ rfl (.tmp 21) (.tmp 25) 144 rfl 9 i0 (.string ⟨#[]⟩) 16 Tryz.underlying144 hi hz0 hz1 hz2 rfl u3 (out.map strOfNums) ((own_below hrow.out.1 ((Below.refl _ _).alloc (Nat.le_refl _) _))) _ (strOfNums ((codes s).drop k)) 1 (by simp [go_sem]) rfl rfl (by have := hok.out; have := hs'.out; simp [maxLen]; omega) (by have := hok.out; have := hs'.out; simp; omega) ?_; intro v' w1 own1 grow1 blk1; have hpu := Lib.hid (push hrow.out hB.out hB.out.size own1 grow1 blk1); clear own1 grow1 blk1)
            try rw [Exit.noGoto_ret]
            go_ret
            exact ⟨_, rfl, by rw [← hfin.out]; exact hpu.out.1, hpu.out.2⟩
          · have hei : ¬ ((j : Int) + 1 = (s.size : Int)) := by omega
            go_wp2_with fail
            refine (hcall.out _).mono ?_
            rintro e w' ⟨rfl, rfl⟩
            go_wp2
            go_roundg g2
            case rel => exact ⟨j + 1, by omega, by omega, by omega, rfl, by go_num, rfl, ha⟩
            case measure => omega
        · have hw' : wdB ((codes s).getD j 0) = false := by simpa using hw
          rw [hw'] at hcall
          clear hall2' hw
          by_cases hkj2 : k < j
          · have hsl := cut_lh s k j hkj (by omega)
            have hr : Hid ((out ++ [((codes s).take j).drop k]) ++ partsL ((codes s).drop j) = partsL (codes s)) := Lib.hid (by
              rw [← hrel2.out]
              have h1 : (codes s).drop k = ((codes s).take j).drop k ++ (codes s).drop j := by
                conv => lhs; rw [← List.take_append_drop j (codes s)]
                rw [List.drop_append_of_le_length (by simp; have := hL'.out; omega)]
              rw [h1, partsL_run (p := ((codes s).take j).drop k) (q := (codes s).drop j) (by intro e; have := congrArg List.length e; simp at this; have := hL'.out; omega) hall.out (.inr ⟨_, _, hdj.out, hw'⟩)]
              simp)
            have hol : Hid ((out ++ [((codes s).take j).drop k]).length ≤ j) := Lib.hid (by have := hok.out; simp; omega)
            have hgG : s.size ≤ j + G := by omega
            have hci : (k : Int) < (j : Int) := by omega
            clear hdj hw' hall hgj hg
            generalize (codes s).getD j 0 = ch at *
            go_wp2_with fail
            refine (hcall.out _).mono ?_
            rintro e w' ⟨rfl, rfl⟩
            go_wp2_with (at_builtin; refine wpList_append_text _ rfl (.tmp 30) (.tmp 35) 144 rfl 9 i0 (.string ⟨#[]⟩) 16 Tryz.underlying144 hi hz0 hz1 hz2 rfl u3 (out.map strOfNums) ((own_below hrow.out.1 ((Below.refl _ _).alloc (Nat.le_refl _) _))) _ (strOfNums (((codes s).take j).drop k)) 1 (by simp [go_sem]) rfl rfl (by have := hok.out; have := hs'.out; simp [maxLen]; omega) (by have := hok.out; have := hs'.out; simp; omega) ?_; intro v' w1 own1 grow1 blk1; have hpu := Lib.hid (push hrow.out hB.out hB.out.size own1 grow1 blk1); clear own1 grow1 blk1)
            go_roundg G
            case rel => exact ⟨j, _, by omega, hgG, rfl, hol, Lib.hid hpu.out.1, hr, Lib.hid hpu.out.2⟩
            case measure => omega
          · have hjk : j = k := by omega
            subst hjk
            have hgG : s.size ≤ j + 1 + G := by omega
            by_cases h32 : (codes s).getD j 0 = 32
            · have hr : Hid (out ++ partsL ((codes s).drop (j + 1)) = partsL (codes s)) := Lib.hid (by
                rw [← hrel2.out, hdj.out, h32, partsL_blank])
              have hol : Hid (out.length ≤ j + 1) := Lib.hid (by have := hok.out; omega)
              rw [h32] at gi hcall
              clear hdj hw' hall hgj hg h32
              go_wp2_with fail
              refine (hcall.out _).mono ?_
              rintro e w' ⟨rfl, rfl⟩
              go_wp2
              go_roundg G
              case rel => exact ⟨j + 1, out, by omega, hgG, by go_num, hol, hrow, hr, hB⟩
              case measure => omega
            · have hsl := cut_lh s j (j + 1) (by omega) (by omega)
              rw [show ((j + 1 : Nat) : Int) = (j : Int) + 1 by omega] at hsl
              have hone : ((codes s).take (j + 1)).drop j = [(codes s).getD j 0] := by
                have hq := hjL.out
                rw [List.take_succ_eq_append_getElem hq, List.drop_append_of_le_length (by simp; omega), List.drop_of_length_le (by simp; omega)]
                simp [List.getD, hq]
              rw [hone] at hsl
              have hr : Hid ((out ++ [[(codes s).getD j 0]]) ++ partsL ((codes s).drop (j + 1)) = partsL (codes s)) := Lib.hid (by
                rw [← hrel2.out, hdj.out, partsL_other hw' h32]; simp)
              have hol : Hid ((out ++ [[(codes s).getD j 0]]).length ≤ j + 1) := Lib.hid (by have := hok.out; simp; omega)
              have hne : ((codes s).getD j 0 != 32) = true := by simpa using h32
              clear hdj hw' hall hgj hg hone
              generalize (codes s).getD j 0 = ch at *
              go_wp2_with fail
              refine (hcall.out _).mono ?_
              rintro e w' ⟨rfl, rfl⟩
              go_wp2_with (at_builtin; refine wpList_append_text _ rfl (.tmp 41) (.tmp 47) 144 rfl 9 i0 (.string ⟨#[]⟩) 16 Tryz.underlying144 hi hz0 hz1 hz2 rfl u3 (out.map strOfNums) ((own_below hrow.out.1 ((Below.refl _ _).alloc (Nat.le_refl _) _))) _ (strOfNums ([ch])) 1 (by simp [go_sem]) rfl rfl (by have := hok.out; have := hs'.out; simp [maxLen]; omega) (by have := hok.out; have := hs'.out; simp; omega) ?_; intro v' w1 own1 grow1 blk1; have hpu := Lib.hid (push hrow.out hB.out hB.out.size own1 grow1 blk1); clear own1 grow1 blk1)
              go_roundg G
              case rel => exact ⟨j + 1, _, by omega, hgG, by go_num, hol, Lib.hid hpu.out.1, hr, Lib.hid hpu.out.2⟩
              case measure => omega
    · have hres : GivesT (partsL (codes s)) w (.returned u3) wr := by
        have h1 := hrel2.out
        rw [List.drop_of_length_le (by have := hL'.out; omega), partsL_nil, List.append_nil] at h1
        rw [← h1]
        exact ⟨_, rfl, hrow.out, hB.out⟩
      go_wp2
      try rw [Exit.noGoto_ret]
      go_ret
      exact hres
end Go.Proofs.YtpchncpcckfghaaGreat
namespace Go.Proofs.YtpchncpcckfghaaGreat
open Go.RowKit
set_option linter.unusedVariables false
set_option linter.unusedSimpArgs false
theorem parts_bs : ∀ (n : Nat) {L : List Int}, L.length ≤ n → Bs L → ∀ l ∈ partsL L, Bs l := by
  intro n
  induction n with
  | zero => intro L h hb l hl; obtain rfl : L = [] := List.eq_nil_of_length_eq_zero (by omega); rw [partsL_nil] at hl; simp at hl
  | succ n ih =>
    intro L h hb l hl
    cases L with
    | nil => rw [partsL_nil] at hl; simp at hl
    | cons c r =>
      have hc : Bs r := fun x hx => hb x (by simp [hx])
      by_cases hw : wdB c = true
      · rw [partsL_word hw] at hl
        rcases List.mem_cons.1 hl with rfl | hl
        · intro x hx
          rcases List.mem_cons.1 hx with rfl | hx
          · exact hb _ (by simp)
          · exact hc x ((List.takeWhile_sublist _).subset hx)
        · have hle : (r.dropWhile wdB).length ≤ r.length := (List.dropWhile_sublist _).length_le
          exact ih (by simp at h; omega) (fun x hx => hc x ((List.dropWhile_sublist _).subset hx)) l hl
      · have hw' : wdB c = false := by simpa using hw
        by_cases h2 : c = 32
        · subst h2
          rw [partsL_blank] at hl
          exact ih (by simp at h; omega) hc l hl
        · rw [partsL_other hw' h2] at hl
          rcases List.mem_cons.1 hl with rfl | hl
          · intro x hx; simp at hx; subst hx; exact hb _ (by simp)
          · exact ih (by simp at h; omega) hc l hl
end Go.Proofs.YtpchncpcckfghaaGreat
namespace Go.Proofs.YtpchncpcckfghaaGreat
open Go.RowKit
set_option linter.unusedVariables false
set_option linter.unusedSimpArgs false
def hw (p : List Int) : Bool := wdB (p.headD 0)
def normL : Bool → List (List Int) → List Int
  | _, [] => []
  | last, p :: r => (if last && hw p then [32] else []) ++ (p ++ normL (hw p) r)
def normS (L : List Int) : List Int := normL false (partsL L)
def Good (p : List Int) : Prop := (p ≠ [] ∧ ∀ c ∈ p, wdB c = true) ∨ ∃ c, p = [c] ∧ wdB c = false ∧ c ≠ 32
theorem run_split (a : Int) (p : List Int) (ha : wdB a = true) : ∃ r q, p = r ++ q ∧ (∀ x ∈ a :: r, wdB x = true) ∧ (q = [] ∨ ∃ y z, q = y :: z ∧ wdB y = false) := by
  refine ⟨p.takeWhile wdB, p.dropWhile wdB, (List.takeWhile_append_dropWhile).symm, ?_, ?_⟩
  · intro x hx
    rcases List.mem_cons.1 hx with rfl | h
    · exact ha
    · exact List.all_eq_true.1 (List.all_takeWhile) x h
  · cases hq : p.dropWhile wdB with
    | nil => exact .inl rfl
    | cons y z =>
      right
      refine ⟨y, z, rfl, ?_⟩
      have := List.head_dropWhile_not (p := wdB) (l := p) (by rw [hq]; simp)
      simpa [hq] using this
theorem parts_run {a : Int} {r q : List Int} (hr : ∀ x ∈ a :: r, wdB x = true) (hq : q = [] ∨ ∃ y z, q = y :: z ∧ wdB y = false) : partsL (a :: (r ++ q)) = (a :: r) :: partsL q := by
  rw [← List.cons_append]; exact partsL_run (by simp) hr hq
theorem parts_good : ∀ (n : Nat) {L : List Int}, L.length ≤ n → ∀ p ∈ partsL L, Good p := by
  intro n
  induction n with
  | zero => intro L h p hp; obtain rfl : L = [] := List.eq_nil_of_length_eq_zero (by omega); rw [partsL_nil] at hp; simp at hp
  | succ n ih =>
    intro L h p hp
    cases L with
    | nil => rw [partsL_nil] at hp; simp at hp
    | cons c L =>
      by_cases hc : wdB c = true
      · obtain ⟨r, q, rfl, hr, hq⟩ := run_split c L hc
        rw [parts_run hr hq] at hp
        rcases List.mem_cons.1 hp with rfl | hp
        · exact .inl ⟨by simp, hr⟩
        · exact ih (by simp at h; omega) p hp
      · have hc' : wdB c = false := by simpa using hc
        by_cases h2 : c = 32
        · subst h2; rw [partsL_blank] at hp; exact ih (by simp at h; omega) p hp
        · rw [partsL_other hc' h2] at hp
          rcases List.mem_cons.1 hp with rfl | hp
          · exact .inr ⟨c, rfl, hc', h2⟩
          · exact ih (by simp at h; omega) p hp
theorem Good.ne {p : List Int} (h : Good p) : p ≠ [] := by
  rcases h with h | ⟨c, rfl, _⟩
  · exact h.1
  · simp
theorem hw_word {a : Int} {r : List Int} (hr : ∀ x ∈ a :: r, wdB x = true) : hw (a :: r) = true := hr a (by simp)
theorem norm_true_le (ps : List (List Int)) : (normL true ps).length ≤ (normL false ps).length + 1 := by
  cases ps with
  | nil => simp [normL]
  | cons p r => simp only [normL, Bool.true_and, Bool.false_and]; split <;> simp
theorem norm_len : ∀ (n : Nat) {L : List Int}, L.length ≤ n → (normL false (partsL L)).length ≤ L.length := by
  intro n
  induction n with
  | zero => intro L h; obtain rfl : L = [] := List.eq_nil_of_length_eq_zero (by omega); simp [partsL_nil, normL]
  | succ n ih =>
    intro L h
    cases L with
    | nil => simp [partsL_nil, normL]
    | cons c L =>
      by_cases hc : wdB c = true
      · obtain ⟨r, q, rfl, hr, hq⟩ := run_split c L hc
        rw [parts_run hr hq]
        have h3 : (normL true (partsL q)).length ≤ q.length := by
          rcases hq with rfl | ⟨y, z, rfl, hy⟩
          · simp [partsL_nil, normL]
          · have hz := ih (L := z) (by simp at h; omega)
            by_cases h2 : y = 32
            · subst h2
              rw [partsL_blank]
              have := norm_true_le (partsL z)
              simp; omega
            · rw [partsL_other hy h2]
              simp [normL, hw, hy]; exact hz
        simp only [normL, hw_word hr, Bool.false_and]
        simp at h3 ⊢; omega
      · have hc' : wdB c = false := by simpa using hc
        have hz := ih (L := L) (by simp at h; omega)
        by_cases h2 : c = 32
        · subst h2; rw [partsL_blank]; simp; omega
        · rw [partsL_other hc' h2]
          simp [normL, hw, hc']; exact hz
theorem normS_len (L : List Int) : (normS L).length ≤ L.length := norm_len _ (Nat.le_refl _)
theorem norm_bs {ps : List (List Int)} (h : ∀ p ∈ ps, Bs p) (last : Bool) : Bs (normL last ps) := by
  induction ps generalizing last with
  | nil => intro x hx; simp [normL] at hx
  | cons p r ih =>
    intro x hx
    simp only [normL, List.mem_append] at hx
    rcases hx with hx | hx | hx
    · split at hx <;> simp at hx; subst hx; omega
    · exact h p (by simp) x hx
    · exact ih (fun q hq => h q (by simp [hq])) _ x hx
end Go.Proofs.YtpchncpcckfghaaGreat
