/-
  Words and walks under the law's proof.
-/
import Derived.WalkSpells
import Derived.Lib.BufferMore
import Derived.Lib.ItoaMem
import Derived.Lib.ItoaLen
import Derived.Lib.Strings
import Derived.Test.YtimgocfkogebmaaGreatDoorRows
import Derived.Lib.SmallJoins
import Derived.Test.YtimgocfkogebmaaGreatDoorQC01
import Derived.Test.YtimgocfkogebmaaGreatDoorQC02
import Derived.Test.YtimgocfkogebmaaGreatDoorQC05
import Derived.Test.YtimgocfkogebmaaGreatDoorQC06
import Derived.Test.YtimgocfkogebmaaGreatDoorQC07
namespace Go.Proofs.YtimgocfkogebmaaGreatDoor
open Go.RowKit
set_option linter.unusedVariables false
set_option linter.unusedSimpArgs false
instance : Inhabited AlD := ⟨al0⟩
theorem alsort_is (l : List AlD) : (l.mergeSort fun x y => !(ltOf cmpA) y x) = sortC cmpA l := by
  have hO := cmA.swo
  have h := List.pairwise_mergeSort (le := fun x y => !(ltOf cmpA) y x) (fun a b e h1 h2 => by
    simp only [Bool.not_eq_true'] at *
    exact hO.ntrans e b a h2 h1) (fun a b => by
    simp only [Bool.or_eq_true, Bool.not_eq_true']
    cases h : ltOf cmpA b a
    · exact .inl rfl
    · right
      cases h2 : ltOf cmpA a b
      · rfl
      · have := hO.trans a b a h2 h
        rw [hO.irrefl] at this
        cases this) l
  refine sortC_is cmA (List.mergeSort_perm _ _) (h.imp fun {a b} hab => ?_)
  have a1 := cmA.anti a b
  unfold ltOf at hab
  simp at hab
  omega
theorem sortA_len (l : List AlD) : (sortC cmpA l).length = l.length := (sortC_perm cmpA l).length_eq
def AlGives (w : World) (l : List AlD) (e : Ending) (w' : World) : Prop := ∃ a c, e = .returned (.slice a l.length c) ∧ RO alC w' a l.length c l ∧ Below w.heap.size w w'
def AlOwn (w : World) (l : List AlD) (e : Ending) (w' : World) : Prop := ∃ v, e = .returned v ∧ w'.ownsRow w.heap.size 23 6 v l.length (alcells l) ∧ Below w.heap.size w w'
set_option maxRecDepth 100000 in
set_option maxHeartbeats 1000000 in
theorem aclone_any (a : Option Addr) (n c : Nat) (l : List AlD) (w : World) (h : RO alC w a n c l) (hn : n ≤ 1000000) : Calls Tryz.prog 39 #[.slice a n c] w (AlOwn w l) := by
  have hlen := h.len
  cases a with
  | none =>
    have hl : l = [] := by
      rcases h.sees with e | ⟨b, off, e, _⟩
      · have h1 := congrArg List.length e
        rw [flat_len alC_len] at h1
        simp at h1
        exact List.length_eq_zero_iff.1 (by omega)
      · cases e
    subst hl
    obtain rfl : n = 0 := hlen
    have hq := fun W => Lib.run_eql_slice_nil_nil (P := Tryz.prog) W (t := 24) (e := 23) 0 c Tryz.underlying24
    clear h
    go_enter Tryz.func39, Tryz.ntmps39
    go_wp2
    go_ret
    exact ⟨_, rfl, own_al_nil w _, Below.refl _ _⟩
  | some ad =>
    obtain ⟨i0, z0, hi, hz, h6, h72, hz6⟩ := infoAlZ
    have hb1 := Lib.hid (box_below w #[] 23)
    have hs := Lib.hid ((h.sees.below hb1.out).mono hb1.out.size)
    have hro : Hid ((w.alloc (.cells #[] 23)).ownsRow w.heap.size 23 6 (.slice (some ⟨w.heap.size, 0, none⟩) 0 0) 0 []) := Lib.hid (own_cells w 23 6 0 #[] (by simp) (by simp [maxLen]))
    have hfl : Hid ((alcells l).length = n * 6) := Lib.hid (by rw [alcells_len, hlen])
    have hone : Hid (∀ u ∈ alcells l, u.oneCell' = true) := Lib.hid (fun u hu => alcells_one hu)
    have hs' : Hid (SeesC (w.alloc (.cells #[] 23)).heap.size (w.alloc (.cells #[] 23)) (some ad) (alcells l)) := hs
    have hlen' := Lib.hid hlen
    clear h hlen hs
    generalize hcse : alcells l = cs at *
    have hcse' := Lib.hid hcse
    clear hcse
    have hq := fun W => Lib.run_eql_slice_some_nil (P := Tryz.prog) W (t := 24) (e := 23) ad n c Tryz.underlying24
    go_enter Tryz.func39, Tryz.ntmps39
    go_wp2_with (at_builtin; go_loud (refine wpList_append_cellsB _ rfl (.tmp 5) (.tmp 6) 24 rfl w 23 i0 z0 6 72 Tryz.underlying24 hi hz h6 h72 hz6 (by decide) _ 0 [] hro.out hb1.out _ (some ad) n c cs hfl.out hs'.out hone.out rfl rfl (by simp [maxLen]; omega) (by omega) ?_); intro v3 w3 own3 b3; simp only [List.nil_append, Nat.zero_add] at own3)
    go_ret
    exact ⟨v3, rfl, by rw [← hlen'.out, hcse'.out]; exact own3, b3⟩
theorem below_of {X : List Nat} {B : Nat} {w w' : World} (h : BelowE X B w w') (hx : ∀ x ∈ X, B ≤ x) : Below B w w' := ⟨h.os, h.tape, h.output, h.size, fun k hk => h.block k hk (fun hm => by have := hx k hm; omega)⟩
theorem sortK_belowE (w : World) (g off m : Nat) (d : Array AlD) (os : Array Obj) : BelowE [g] w.heap.size w (sortWorldK alC 6 w g off m d os) := by
  unfold sortWorldK Go.Sort.putRowK
  refine ⟨rfl, rfl, rfl, ?_, fun k hk hx => ?_⟩
  · rw [Go.Sort.size_grow]
    simp [Go.Sort.putRow, Go.Sort.mapBlock, Go.Sort.ahead]
  · rw [Go.Sort.heap_grow_old]
    · have hne : g ≠ k := fun e => hx (by simp [e])
      simp [Go.Sort.putRow, Go.Sort.mapBlock, Go.Sort.ahead, Array.getElem?_modify, hne]
    · simpa [Go.Sort.putRow, Go.Sort.mapBlock, Go.Sort.ahead] using hk
theorem flatK_at (l : List AlD) (t : Nat) (ht : t < l.length * 6) : (alcells l)[t]? = some (Go.Sort.flatK alC 6 l.toArray)[t]! := by
  rw [Go.Sort.get_flatK _ _ _ _ (by simpa using ht)]
  have e := flat_at alC_len l (t / 6) (t % 6) (Nat.mod_lt _ (by decide))
  rw [Nat.div_add_mod' t 6] at e
  have hq : t / 6 < l.length := by omega
  unfold alcells
  rw [e, getElem!_pos _ (t / 6) (by simpa using hq)]
  simp only [hq, List.getElem?_eq_getElem, Option.bind_some, List.getElem_toArray]
  have h6 : t % 6 < (alC l[t / 6]).length := by rw [alC_len]; omega
  rw [getElem!_pos (alC l[t / 6]) (t % 6) h6, List.getElem?_eq_getElem h6]
set_option maxHeartbeats 1000000 in
theorem alsort_any (v : Value) (l : List AlD) (w0 w : World) (h : w.ownsRow w0.heap.size 23 6 v l.length (alcells l)) (hb : Below w0.heap.size w0 w) (hn : l.length ≤ 1000000) :
    Calls Tryz.prog 40 #[v, .func (.func 11) #[] #[]] w fun e w' => e = .returned (.tuple #[]) ∧ (∃ a c, v = .slice a l.length c ∧ RO alC w' a l.length c (sortC cmpA l)) ∧ Below w0.heap.size w0 w' := by
  by_cases hn0 : l.length = 0
  · have hl : l = [] := List.length_eq_zero_iff.1 hn0
    subst hl
    obtain ⟨a, c, rfl, hro⟩ := ro_own h
    have q := AnyF.slices_SortFunc_none Tryz.sortAl a c (.func (.func 11) #[] #[]) w
    refine Calls.mono q ?_
    rintro e w' ⟨rfl, rfl⟩
    exact ⟨rfl, ⟨a, c, rfl, hro⟩, hb⟩
  have eg : ∀ args w, (callFunc 11 args).run Tryz.prog w = .ok (.enter 11 args) w := enters_of Tryz.func11 (by kernel_rfl) rfl
  have hl6 := alcells_len l
  rcases h.2 with ⟨_, h0⟩ | ⟨g, cap, cur, rfl, hbg, hgg, hnc, hcm, hcs, htake⟩
  · exact absurd h0 hn0
  have hgl : g < w.heap.size := (Array.getElem?_eq_some_iff.1 hgg).1
  have hH : Go.Sort.HoldsK alC 6 w g 0 l.toArray := by
    intro j hj
    rw [Go.Sort.size_flatK] at hj
    have hj' : j < l.length * 6 := by simpa using hj
    have e := flatK_at l j hj'
    rw [← htake] at e
    have hcur : cur[j]? = some (Go.Sort.flatK alC 6 l.toArray)[j]! := by
      rw [List.getElem?_take, if_pos hj'] at e
      simpa using e
    have H : Holds w g 23 cur := hgg
    rw [Nat.zero_add]
    exact ⟨(H.cell j).trans hcur, H.free j⟩
  have hcmp : CmpLays Tryz.prog 11 #[] alC 6 cmpA g 0 l.toArray.size w := by
    intro m os dk hs x y
    exact (acmpg_any x y _).mono fun e w' h => h
  have hS := AnyQ.slices_SortFunc_total Tryz.sortAl 6 (fun w => by kernel_rfl) (fun w => by kernel_rfl) alC alC_len (fun x v hv => alcells_one (l := [x]) (by simpa [alcells] using hv)) cmpA cmA.swo 11 #[] g 0 cap l.toArray w eg hcmp hH hgl (by simp; omega) cmA.tot
  have hsz : l.toArray.size = l.length := by simp
  rw [hsz, List.toList_toArray, alsort_is] at hS
  refine Calls.mono hS ?_
  rintro e w' ⟨rfl, m, os, rfl⟩
  have hE := sortK_belowE w g 0 m (sortC cmpA l).toArray os
  refine ⟨rfl, ⟨some ⟨g, 0, none⟩, cap, rfl, ⟨(sortA_len l).symm, hnc, hcm, .inr ⟨g, 0, rfl, Nat.lt_of_lt_of_le hgl hE.size, fun i v hv => ?_⟩⟩⟩, hb.trans (below_of (hE.mono hb.size) (by intro x hx; simp at hx; omega))⟩
  have hi : i < (sortC cmpA l).length * 6 := by
    have := (List.getElem?_eq_some_iff.1 hv).1
    rwa [flat_len alC_len] at this
  have e := flatK_at (sortC cmpA l) i hi
  unfold alcells at e
  rw [e] at hv
  injection hv with hv
  have hH2 : Go.Sort.HoldsK alC 6 (sortWorldK alC 6 w g 0 m (sortC cmpA l).toArray os) g 0 (sortC cmpA l).toArray := holdsK_sortWorldK_c alC 6 w g 0 l.toArray (sortC cmpA l).toArray m os hH hgl (by simp [sortA_len])
  have q := (hH2 i (by rw [Go.Sort.size_flatK]; simpa using hi)).1
  rw [q]
  exact congrArg some hv
set_option maxRecDepth 100000 in
theorem asort_any (a : Option Addr) (n c : Nat) (l : List AlD) (w : World) (h : RO alC w a n c l) (hn : n ≤ 1000000) : Calls Tryz.prog 14 #[.slice a n c] w (AlGives w (sortC cmpA l)) := by
  have q1 := Lib.hid (aclone_any a n c l w h hn)
  have hln : l.length ≤ 1000000 := by rw [← h.len]; exact hn
  have q2 := Lib.hid (fun v W hW hb => alsort_any v l w W hW hb hln)
  clear h
  go_enter Tryz.func14, Tryz.ntmps14
  go_wp2_with fail
  with_reducible refine q1.out.mono ?_
  rintro e w1 ⟨v, rfl, own, b1⟩
  have qq := Lib.hid (q2.out v w1 own b1)
  clear q1 q2 own b1
  go_wp2_with fail
  with_reducible refine qq.out.mono ?_
  rintro e w2 ⟨rfl, ⟨a2, c2, rfl, hro⟩, b2⟩
  clear qq
  go_wp2
  go_ret
  exact ⟨a2, c2, by rw [sortA_len]; rfl, by rw [sortA_len]; exact hro, b2⟩
end Go.Proofs.YtimgocfkogebmaaGreatDoor
namespace Go.Proofs.YtimgocfkogebmaaGreatDoor
open Go.RowKit
set_option linter.unusedVariables false
set_option linter.unusedSimpArgs false
structure P3 (w W : World) (zn zm : Value) (st : Array Value) (rn rm : Value) : Prop where
  bl : Below w.heap.size w W
  z : ZH W w.heap.size zn zm
  s : Holds W (w.heap.size + 1) 73 st
  r : ZH W (w.heap.size + 2) rn rm
theorem P3.on {w W W' : World} {zn zm rn rm : Value} {st : Array Value} (h : P3 w W zn zm st rn rm) (hb : Below W.heap.size W W') : P3 w W' zn zm st rn rm :=
  ⟨h.bl.trans (hb.mono h.bl.size), h.z.below hb h.z.lt, h.s.below hb h.s.lt, h.r.below hb h.r.lt⟩
theorem p3_new (w : World) (zn zm : Value) (st : Array Value) : P3 w (((w.alloc (.cells #[zn, zm] 51)).alloc (.cells st 73)).alloc (.cells #[.int .i64 0, .slice none 0 0] 51)) zn zm st (.int .i64 0) (.slice none 0 0) := by
  refine ⟨((box_below _ _ _).alloc (by simp) _).alloc (by simp; omega) _, ((Holds.new w _ _).alloc _).alloc _, ?_, ?_⟩
  · have := (Holds.new (w.alloc (.cells #[zn, zm] 51)) 73 st).alloc (.cells #[.int .i64 0, .slice none 0 0] 51)
    simpa using this
  · have := Holds.new ((w.alloc (.cells #[zn, zm] 51)).alloc (.cells st 73)) 51 #[.int .i64 0, .slice none 0 0]
    simpa using this
set_option maxRecDepth 100000 in
set_option maxHeartbeats 400000 in
theorem plimit_any (n : Nat) (l : List Int) (hz : IsZ n l) (k x y c d : Int) (X Y : Nat) (ex : x = X) (ey : y = Y) (hx : X ≤ n) (hy : Y ≤ n) (a : Option Addr) (m ca : Nat) (w : World) (h : SL w a m ca l) : Calls Tryz.prog 187 #[.agg #[.int .i64 n, .slice a m ca], .agg #[.int .i64 k, .int .i64 x, .int .i64 y, .int .i64 c, .int .i64 d]] w (ZoneE n (limitL n l X Y c) 0 w) := by
  obtain ⟨W1, hW1⟩ : ∃ W1, W1 = ((w.alloc (.cells #[.int .i64 n, .slice a m ca] 51)).alloc (.cells #[.int .i64 k, .int .i64 x, .int .i64 y, .int .i64 c, .int .i64 d] 73)).alloc (.cells #[.int .i64 0, .slice none 0 0] 51) := ⟨_, rfl⟩
  have X1 : P3 w W1 (.int .i64 n) (.slice a m ca) #[.int .i64 k, .int .i64 x, .int .i64 y, .int .i64 c, .int .i64 d] (.int .i64 0) (.slice none 0 0) := by rw [hW1]; exact p3_new _ _ _ _
  have hW1' := Lib.hid hW1
  have XP := Lib.hid X1
  have k0 := X1.z.cell 0
  have k1 := X1.z.cell 1
  have s1 := X1.s.cell 1
  have s2 := X1.s.cell 2
  have s3 := X1.s.cell 3
  have s4 := X1.s.cell 4
  subst ex ey
  have q := Lib.hid ((fun W hs => zlimit_ok n l hz X Y hx hy c a m ca W hs) W1 (h.below X1.bl))
  clear hW1 X1 h hz
  generalize (limitL n l X Y c) = R at *
  go_enter Tryz.func187, Tryz.ntmps187
  go_wp2_with fail
  rw [← hW1'.out]
  refine q.out.mono ?_
  rintro e w7 ⟨a7, c7, rfl, hc7, s7, b7, nw7⟩
  have Zd := XP.out.r.below b7 XP.out.r.lt
  have y0 := Zd.cell 0
  have y1 := Zd.cell 1
  have f0 := Zd.free 0
  have f1 := Zd.free 1
  have hfin := Lib.hid (zone_put (n := n) (err := 0) XP.out.bl (by omega) XP.out.r hc7 s7 b7 nw7)
  clear Zd q k0 k1 s1 s2 s3 s4 hW1'
  go_wp2
  exact zone_ret2 hfin.out.1 hfin.out.2.1 _ _ 4 5 rfl rfl rfl rfl
set_option maxRecDepth 100000 in
set_option maxHeartbeats 400000 in
theorem beyond_any (n : Nat) (l : List Int) (hz : IsZ n l) (k x y c d : Int) (X Y : Nat) (ex : x = X) (ey : y = Y) (hx : X ≤ n) (hy : Y ≤ n) (hc : -1099511627776 ≤ c ∧ c ≤ 1099511627776) (a : Option Addr) (m ca : Nat) (w : World) (h : SL w a m ca l) : Calls Tryz.prog 199 #[.agg #[.int .i64 n, .slice a m ca], .agg #[.int .i64 k, .int .i64 x, .int .i64 y, .int .i64 c, .int .i64 d]] w (ZoneE n (limitL n l Y X (-c - 1)) 0 w) := by
  obtain ⟨W1, hW1⟩ : ∃ W1, W1 = ((w.alloc (.cells #[.int .i64 n, .slice a m ca] 51)).alloc (.cells #[.int .i64 k, .int .i64 x, .int .i64 y, .int .i64 c, .int .i64 d] 73)).alloc (.cells #[.int .i64 0, .slice none 0 0] 51) := ⟨_, rfl⟩
  have X1 : P3 w W1 (.int .i64 n) (.slice a m ca) #[.int .i64 k, .int .i64 x, .int .i64 y, .int .i64 c, .int .i64 d] (.int .i64 0) (.slice none 0 0) := by rw [hW1]; exact p3_new _ _ _ _
  have hW1' := Lib.hid hW1
  have XP := Lib.hid X1
  have k0 := X1.z.cell 0
  have k1 := X1.z.cell 1
  have s1 := X1.s.cell 1
  have s2 := X1.s.cell 2
  have s3 := X1.s.cell 3
  have s4 := X1.s.cell 4
  subst ex ey
  have wr1 : IntKind.i64.wrap (-c) = -c := by simp [IntKind.wrap, IntKind.bits, IntKind.signed]; omega
  have wr2 : IntKind.i64.wrap (-c - 1) = -c - 1 := by simp [IntKind.wrap, IntKind.bits, IntKind.signed]; omega
  have q := Lib.hid ((fun W hs => zlimit_ok n l hz Y X hy hx (-c - 1) a m ca W hs) W1 (h.below X1.bl))
  clear hW1 X1 h hz
  generalize (limitL n l Y X (-c - 1)) = R at *
  go_enter Tryz.func199, Tryz.ntmps199
  go_wp2_with fail
  rw [← hW1'.out]
  refine q.out.mono ?_
  rintro e w7 ⟨a7, c7, rfl, hc7, s7, b7, nw7⟩
  have Zd := XP.out.r.below b7 XP.out.r.lt
  have y0 := Zd.cell 0
  have y1 := Zd.cell 1
  have f0 := Zd.free 0
  have f1 := Zd.free 1
  have hfin := Lib.hid (zone_put (n := n) (err := 0) XP.out.bl (by omega) XP.out.r hc7 s7 b7 nw7)
  clear Zd q k0 k1 s1 s2 s3 s4 hW1'
  go_wp2
  exact zone_ret2 hfin.out.1 hfin.out.2.1 _ _ 4 5 rfl rfl rfl rfl
end Go.Proofs.YtimgocfkogebmaaGreatDoor
namespace Go.Proofs.YtimgocfkogebmaaGreatDoor
open Go.RowKit
set_option linter.unusedVariables false
set_option linter.unusedSimpArgs false
def postL (n : Nat) (l : List Int) (k x y c d : Int) : List Int := if k = 1 then l else if k = 2 then letL n l x.toNat y.toNat c else if k = 3 then limitL n (limitL n (forgetL n l x.toNat) x.toNat 0 d) 0 x.toNat (-c) else limitL n l x.toNat y.toNat c
def faultL (n : Nat) (l : List Int) (k x y c : Int) : List Int := if k = 5 then limitL n l y.toNat x.toNat (-c - 1) else []
theorem info_steps : (Tryz.prog.info? 167).map (·.size) = some 6 := by kernel_rfl
def stepsA : Array Value := #[.nilFunc, .func (.func 184) #[] #[], .func (.func 185) #[] #[], .func (.func 186) #[] #[], .func (.func 187) #[] #[], .func (.func 187) #[] #[]]
theorem steps_any (w : World) : Calls Tryz.prog 145 #[] w (Gives (.agg stepsA) w) := by
  go_enter Tryz.func145, Tryz.ntmps145
  go_wp2
  exact bodyPost_ret (v := .agg stepsA) (results_cell_row rfl _ _ w.heap.size 167 stepsA (0, 0) _ rfl (heap_alloc_new w (.cells stepsA 167)) Tryz.underlying167 rfl (by rw [info_steps]; rfl)) rfl ⟨rfl, (Below.refl _ _).alloc (Nat.le_refl _) _⟩
def faultsA : Array Value := #[.nilFunc, .func (.func 198) #[] #[], .func (.func 198) #[] #[], .func (.func 198) #[] #[], .func (.func 198) #[] #[], .func (.func 199) #[] #[]]
theorem faults_any (w : World) : Calls Tryz.prog 173 #[] w (Gives (.agg faultsA) w) := by
  go_enter Tryz.func173, Tryz.ntmps173
  go_wp2
  exact bodyPost_ret (v := .agg faultsA) (results_cell_row rfl _ _ w.heap.size 167 faultsA (0, 0) _ rfl (heap_alloc_new w (.cells faultsA 167)) Tryz.underlying167 rfl (by rw [info_steps]; rfl)) rfl ⟨rfl, (Below.refl _ _).alloc (Nat.le_refl _) _⟩
structure P4 (w W : World) (zn zm : Value) (st tab : Array Value) (rn rm : Value) : Prop where
  bl : Below w.heap.size w W
  z : ZH W w.heap.size zn zm
  s : Holds W (w.heap.size + 1) 73 st
  t : Holds W (w.heap.size + 2) 167 tab
  r : ZH W (w.heap.size + 3) rn rm
theorem P4.on {w W W' : World} {zn zm rn rm : Value} {st tab : Array Value} (h : P4 w W zn zm st tab rn rm) (hb : Below W.heap.size W W') : P4 w W' zn zm st tab rn rm :=
  ⟨h.bl.trans (hb.mono h.bl.size), h.z.below hb h.z.lt, h.s.below hb h.s.lt, h.t.below hb h.t.lt, h.r.below hb h.r.lt⟩
theorem p4_new (w : World) (zn zm : Value) (st tab : Array Value) : P4 w ((((w.alloc (.cells #[zn, zm] 51)).alloc (.cells st 73)).alloc (.cells tab 167)).alloc (.cells #[.int .i64 0, .slice none 0 0] 51)) zn zm st tab (.int .i64 0) (.slice none 0 0) := by
  refine ⟨(((box_below _ _ _).alloc (by simp) _).alloc (by simp; omega) _).alloc (by simp; omega) _, (((Holds.new w _ _).alloc _).alloc _).alloc _, ?_, ?_, ?_⟩
  · have := ((Holds.new (w.alloc (.cells #[zn, zm] 51)) 73 st).alloc (.cells tab 167)).alloc (.cells #[.int .i64 0, .slice none 0 0] 51)
    simpa using this
  · have := (Holds.new ((w.alloc (.cells #[zn, zm] 51)).alloc (.cells st 73)) 167 tab).alloc (.cells #[.int .i64 0, .slice none 0 0] 51)
    simpa using this
  · have := Holds.new (((w.alloc (.cells #[zn, zm] 51)).alloc (.cells st 73)).alloc (.cells tab 167)) 51 #[.int .i64 0, .slice none 0 0]
    simpa using this
set_option maxRecDepth 100000 in
set_option maxHeartbeats 400000 in
theorem do_steps_5 (n : Nat) (x y c d : Int) (l R : List Int) (hz : IsZ n l) (hr : rightB 5 x y c d n = true) (a : Option Addr) (m ca : Nat)
    (hq : ∀ W, SL W a m ca l → Calls Tryz.prog 187 #[.agg #[.int .i64 n, .slice a m ca], .agg #[.int .i64 5, .int .i64 x, .int .i64 y, .int .i64 c, .int .i64 d]] W (ZoneE n R 0 W)) (w : World) (h : SL w a m ca l) : Calls Tryz.prog 144 #[.agg #[.int .i64 n, .slice a m ca], .agg #[.int .i64 5, .int .i64 x, .int .i64 y, .int .i64 c, .int .i64 d], .agg #[.nilFunc, .func (.func 184) #[] #[], .func (.func 185) #[] #[], .func (.func 186) #[] #[], .func (.func 187) #[] #[], .func (.func 187) #[] #[]]] w (ZoneE n R 0 w) := by
  obtain ⟨W1, hW1⟩ : ∃ W1, W1 = (((w.alloc (.cells #[.int .i64 n, .slice a m ca] 51)).alloc (.cells #[.int .i64 5, .int .i64 x, .int .i64 y, .int .i64 c, .int .i64 d] 73)).alloc (.cells #[.nilFunc, .func (.func 184) #[] #[], .func (.func 185) #[] #[], .func (.func 186) #[] #[], .func (.func 187) #[] #[], .func (.func 187) #[] #[]] 167)).alloc (.cells #[.int .i64 0, .slice none 0 0] 51) := ⟨_, rfl⟩
  have X1 : P4 w W1 (.int .i64 n) (.slice a m ca) #[.int .i64 5, .int .i64 x, .int .i64 y, .int .i64 c, .int .i64 d] #[.nilFunc, .func (.func 184) #[] #[], .func (.func 185) #[] #[], .func (.func 186) #[] #[], .func (.func 187) #[] #[], .func (.func 187) #[] #[]] (.int .i64 0) (.slice none 0 0) := by rw [hW1]; exact p4_new _ _ _ _ _
  have hW1' := Lib.hid hW1
  have XP := Lib.hid X1
  have k0 := X1.z.cell 0
  have k1 := X1.z.cell 1
  have s0 := X1.s.cell 0
  have s1 := X1.s.cell 1
  have s2 := X1.s.cell 2
  have s3 := X1.s.cell 3
  have s4 := X1.s.cell 4
  have kl := X1.z.lt
  have q1 := Lib.hid (dcheck_any n a m ca l W1 (h.below X1.bl))
  rw [show chk n l = 0 by unfold chk; rw [hz.check]; rfl] at q1
  have q2 := Lib.hid (fun W => right_any 5 x y c d n W)
  rw [hr] at q2
  have hq' := Lib.hid hq
  have hS := Lib.hid h
  clear hW1 X1 h hz hq hr
  go_enter Tryz.func144, Tryz.ntmps144
  go_wp2_with fail
  rw [← hW1'.out]
  refine q1.out.mono ?_
  rintro e w2 ⟨rfl, b2⟩
  have X2 := Lib.hid (XP.out.on b2)
  clear b2 q1 k0 k1 s0 s1 s2 s3 s4 kl XP hW1'
  have k0 := X2.out.z.cell 0
  have s0 := X2.out.s.cell 0
  have s1 := X2.out.s.cell 1
  have s2 := X2.out.s.cell 2
  have s3 := X2.out.s.cell 3
  have s4 := X2.out.s.cell 4
  go_wp2_with fail
  refine (q2.out _).mono ?_
  rintro e w3 ⟨rfl, b3⟩
  have X3 := Lib.hid (X2.out.on b3)
  clear b3 q2 k0 s0 s1 s2 s3 s4 X2
  have D : ∀ W, P4 w W (.int .i64 n) (.slice a m ca) #[.int .i64 5, .int .i64 x, .int .i64 y, .int .i64 c, .int .i64 d] #[.nilFunc, .func (.func 184) #[] #[], .func (.func 185) #[] #[], .func (.func 186) #[] #[], .func (.func 187) #[] #[], .func (.func 187) #[] #[]] (.int .i64 0) (.slice none 0 0) → W.cell? ⟨w.heap.size + 1, 0, none⟩ = some (.int .i64 5) := fun W hW => hW.s.cell 0
  go_wp2
  have g0 : ∀ W, (∃ u v, P4 w W (.int .i64 n) (.slice a m ca) #[.int .i64 5, .int .i64 x, .int .i64 y, .int .i64 c, .int .i64 d] #[.nilFunc, .func (.func 184) #[] #[], .func (.func 185) #[] #[], .func (.func 186) #[] #[], .func (.func 187) #[] #[], .func (.func 187) #[] #[]] u v) → W.cell? ⟨w.heap.size, 0, none⟩ = some (.int .i64 n) := fun W hW => by obtain ⟨_, _, hP⟩ := hW; exact hP.z.cell 0
  have g1 : ∀ W, (∃ u v, P4 w W (.int .i64 n) (.slice a m ca) #[.int .i64 5, .int .i64 x, .int .i64 y, .int .i64 c, .int .i64 d] #[.nilFunc, .func (.func 184) #[] #[], .func (.func 185) #[] #[], .func (.func 186) #[] #[], .func (.func 187) #[] #[], .func (.func 187) #[] #[]] u v) → W.cell? ⟨w.heap.size, 1, none⟩ = some (.slice a m ca) := fun W hW => by obtain ⟨_, _, hP⟩ := hW; exact hP.z.cell 1
  have gt : ∀ W, (∃ u v, P4 w W (.int .i64 n) (.slice a m ca) #[.int .i64 5, .int .i64 x, .int .i64 y, .int .i64 c, .int .i64 d] #[.nilFunc, .func (.func 184) #[] #[], .func (.func 185) #[] #[], .func (.func 186) #[] #[], .func (.func 187) #[] #[], .func (.func 187) #[] #[]] u v) → W.cell? ⟨w.heap.size + 2, 5, none⟩ = some (.func (.func 187) #[] #[]) := fun W hW => by obtain ⟨_, _, hP⟩ := hW; exact hP.t.cell 5
  have r0 : ∀ W, (∃ u v, P4 w W (.int .i64 n) (.slice a m ca) #[.int .i64 5, .int .i64 x, .int .i64 y, .int .i64 c, .int .i64 d] #[.nilFunc, .func (.func 184) #[] #[], .func (.func 185) #[] #[], .func (.func 186) #[] #[], .func (.func 187) #[] #[], .func (.func 187) #[] #[]] u v) → W.cell? ⟨w.heap.size + 1, 0, none⟩ = some (.int .i64 5) := fun W hW => by obtain ⟨_, _, hP⟩ := hW; exact hP.s.cell 0
  have r1 : ∀ W, (∃ u v, P4 w W (.int .i64 n) (.slice a m ca) #[.int .i64 5, .int .i64 x, .int .i64 y, .int .i64 c, .int .i64 d] #[.nilFunc, .func (.func 184) #[] #[], .func (.func 185) #[] #[], .func (.func 186) #[] #[], .func (.func 187) #[] #[], .func (.func 187) #[] #[]] u v) → W.cell? ⟨w.heap.size + 1, 1, none⟩ = some (.int .i64 x) := fun W hW => by obtain ⟨_, _, hP⟩ := hW; exact hP.s.cell 1
  have r2 : ∀ W, (∃ u v, P4 w W (.int .i64 n) (.slice a m ca) #[.int .i64 5, .int .i64 x, .int .i64 y, .int .i64 c, .int .i64 d] #[.nilFunc, .func (.func 184) #[] #[], .func (.func 185) #[] #[], .func (.func 186) #[] #[], .func (.func 187) #[] #[], .func (.func 187) #[] #[]] u v) → W.cell? ⟨w.heap.size + 1, 2, none⟩ = some (.int .i64 y) := fun W hW => by obtain ⟨_, _, hP⟩ := hW; exact hP.s.cell 2
  have r3 : ∀ W, (∃ u v, P4 w W (.int .i64 n) (.slice a m ca) #[.int .i64 5, .int .i64 x, .int .i64 y, .int .i64 c, .int .i64 d] #[.nilFunc, .func (.func 184) #[] #[], .func (.func 185) #[] #[], .func (.func 186) #[] #[], .func (.func 187) #[] #[], .func (.func 187) #[] #[]] u v) → W.cell? ⟨w.heap.size + 1, 3, none⟩ = some (.int .i64 c) := fun W hW => by obtain ⟨_, _, hP⟩ := hW; exact hP.s.cell 3
  have r4 : ∀ W, (∃ u v, P4 w W (.int .i64 n) (.slice a m ca) #[.int .i64 5, .int .i64 x, .int .i64 y, .int .i64 c, .int .i64 d] #[.nilFunc, .func (.func 184) #[] #[], .func (.func 185) #[] #[], .func (.func 186) #[] #[], .func (.func 187) #[] #[], .func (.func 187) #[] #[]] u v) → W.cell? ⟨w.heap.size + 1, 4, none⟩ = some (.int .i64 d) := fun W hW => by obtain ⟨_, _, hP⟩ := hW; exact hP.s.cell 4
  clear D
  refine wp_drawn_on (fun W => ∃ u v, P4 w W (.int .i64 n) (.slice a m ca) #[.int .i64 5, .int .i64 x, .int .i64 y, .int .i64 c, .int .i64 d] #[.nilFunc, .func (.func 184) #[] #[], .func (.func 185) #[] #[], .func (.func 186) #[] #[], .func (.func 187) #[] #[], .func (.func 187) #[] #[]] u v) (by kernel_rfl) (⟨_, _, X3.out.on (Below.refl _ _).drew⟩) (fun hHeld => ?_)
  refine wpAnyH_take (i := 0) (oi := { dst := some 18, op := Go.Op.fieldAddr 73 (Go.Operand.tmp 4) 0, type := 0, pos := "post.go:66", after := #[], guard := none }) (v := ?v37) rfl (by kernel_rfl) (by kernel_rfl) (by kernel_rfl) (fun _ _ _ h => h) (Or.inl ⟨by kernel_rfl, ?h37⟩) (by assumption) ?r37
  case h37 => (intro w hSw; (try dsimp only at hSw); go_simp; try with_reducible rfl)
  try simp only [Act.put, List.setIfInBounds_toArray, List.set_cons_zero, List.set_cons_succ]
  refine wpAnyH_take (i := 1) (oi := { dst := some 19, op := Go.Op.load 3 (Go.Operand.tmp 18), type := 3, pos := "post.go:66", after := #[{ on := 0, ground := Go.Ground.data }], guard := none }) (v := ?v38) rfl (by kernel_rfl) (by kernel_rfl) (by kernel_rfl) (fun _ _ _ h => h) (Or.inl ⟨by kernel_rfl, ?h38⟩) (by assumption) ?r38
  case h38 => (intro w hSw; (try dsimp only at hSw); go_simp; try with_reducible rfl)
  try simp only [Act.put, List.setIfInBounds_toArray, List.set_cons_zero, List.set_cons_succ]
  refine wpAnyH_take (i := 2) (oi := { dst := some 20, op := Go.Op.indexAddr 167 (Go.Operand.tmp 5) (Go.Operand.tmp 19), type := 0, pos := "post.go:66", after := #[{ on := 1, ground := Go.Ground.data }], guard := none }) (v := ?v39) rfl (by kernel_rfl) (by kernel_rfl) (by kernel_rfl) (fun _ _ _ h => h) (Or.inl ⟨by kernel_rfl, ?h39⟩) (by assumption) ?r39
  case h39 => (intro w hSw; (try dsimp only at hSw); go_simp; try with_reducible rfl)
  try simp only [Act.put, List.setIfInBounds_toArray, List.set_cons_zero, List.set_cons_succ]
  refine wpAnyH_take (i := 3) (oi := { dst := some 21, op := Go.Op.load 166 (Go.Operand.tmp 20), type := 166, pos := "post.go:66", after := #[{ on := 2, ground := Go.Ground.data }], guard := none }) (v := ?v40) rfl (by kernel_rfl) (by kernel_rfl) (by kernel_rfl) (fun _ _ _ h => h) (Or.inl ⟨by kernel_rfl, ?h40⟩) (by assumption) ?r40
  case h40 => (intro w hSw; (try dsimp only at hSw); go_simp; try with_reducible rfl)
  try simp only [Act.put, List.setIfInBounds_toArray, List.set_cons_zero, List.set_cons_succ]
  refine wpAnyH_take (i := 4) (oi := { dst := some 22, op := Go.Op.load 51 (Go.Operand.tmp 3), type := 51, pos := "post.go:66", after := #[], guard := none }) (v := ?v41) rfl (by kernel_rfl) (by kernel_rfl) (by kernel_rfl) (fun _ _ _ h => h) (Or.inl ⟨by kernel_rfl, ?h41⟩) (by assumption) ?r41
  case h41 => (intro w hSw; (try dsimp only at hSw); go_simp; try with_reducible rfl)
  try simp only [Act.put, List.setIfInBounds_toArray, List.set_cons_zero, List.set_cons_succ]
  refine wpAnyH_take (i := 5) (oi := { dst := some 23, op := Go.Op.load 73 (Go.Operand.tmp 4), type := 73, pos := "post.go:66", after := #[], guard := none }) (v := ?v42) rfl (by kernel_rfl) (by kernel_rfl) (by kernel_rfl) (fun _ _ _ h => h) (Or.inl ⟨by kernel_rfl, ?h42⟩) (by assumption) ?r42
  case h42 => (intro w hSw; (try dsimp only at hSw); go_simp; try with_reducible rfl)
  try simp only [Act.put, List.setIfInBounds_toArray, List.set_cons_zero, List.set_cons_succ]
  refine wpAnyH_ready (rs := [6]) (by kernel_rfl) (by simp) ?_
  refine AllReadyH.cons (o := { dst := some 24, op := Go.Op.call { callee := Go.Callee.value (Go.Operand.tmp 21), args := #[Go.Operand.tmp 22, Go.Operand.tmp 23], argTypes := #[51, 73] }, type := 126, pos := "post.go:66", after := #[{ on := 3, ground := Go.Ground.data }, { on := 4, ground := Go.Ground.data }, { on := 5, ground := Go.Ground.data }], guard := none }) rfl (fun K hK => ?_) AllReadyH.nil
  go_simp
  refine (hq'.out _ (hS.out.below (X3.out.on (Below.refl _ _).drew).bl)).mono ?_
  rintro e u6 ⟨a7, c7, rfl, hc7, s7, b7, nw7⟩
  have Q6 := (X3.out.on (Below.refl _ _).drew).on b7
  have hx6 : ∃ u v, P4 w u6 (.int .i64 n) (.slice a m ca) #[.int .i64 5, .int .i64 x, .int .i64 y, .int .i64 c, .int .i64 d] #[.nilFunc, .func (.func 184) #[] #[], .func (.func 185) #[] #[], .func (.func 186) #[] #[], .func (.func 187) #[] #[], .func (.func 187) #[] #[]] u v := ⟨_, _, Q6⟩
  have y0 := Q6.r.cell 0
  have y1 := Q6.r.cell 1
  have f0 := Q6.r.free 0
  have f1 := Q6.r.free 1
  go_simp
  refine hK.out _ _ (hx6) (fun hHeld => ?_)
  clear hK K
  try simp only [Act.put, List.setIfInBounds_toArray, List.set_cons_zero, List.set_cons_succ]
  refine wpAnyH_take (i := 7) (oi := { dst := some 25, op := Go.Op.extract (Go.Operand.tmp 24) 0, type := 51, pos := "post.go:66", after := #[{ on := 6, ground := Go.Ground.data }], guard := none }) (v := ?v43) rfl (by kernel_rfl) (by kernel_rfl) (by kernel_rfl) (fun _ _ _ h => h) (Or.inl ⟨by kernel_rfl, ?h43⟩) (by assumption) ?r43
  case h43 => (intro w hSw; (try dsimp only at hSw); go_simp; try with_reducible rfl)
  try simp only [Act.put, List.setIfInBounds_toArray, List.set_cons_zero, List.set_cons_succ]
  refine wpAnyH_take (i := 8) (oi := { dst := some 26, op := Go.Op.extract (Go.Operand.tmp 24) 1, type := 27, pos := "post.go:66", after := #[{ on := 6, ground := Go.Ground.data }], guard := none }) (v := ?v44) rfl (by kernel_rfl) (by kernel_rfl) (by kernel_rfl) (fun _ _ _ h => h) (Or.inl ⟨by kernel_rfl, ?h44⟩) (by assumption) ?r44
  case h44 => (intro w hSw; (try dsimp only at hSw); go_simp; try with_reducible rfl)
  try simp only [Act.put, List.setIfInBounds_toArray, List.set_cons_zero, List.set_cons_succ]
  refine wpAnyH_ready (rs := [9]) (by kernel_rfl) (by simp) ?_
  refine AllReadyH.cons (o := { dst := none, op := Go.Op.store 51 (Go.Operand.tmp 6) (Go.Operand.tmp 25), type := 0, pos := "post.go:66", after := #[{ on := 7, ground := Go.Ground.data }, { on := 6, ground := Go.Ground.chain }, { on := 0, ground := Go.Ground.phase }, { on := 1, ground := Go.Ground.phase }, { on := 2, ground := Go.Ground.phase }, { on := 3, ground := Go.Ground.phase }, { on := 4, ground := Go.Ground.phase }, { on := 5, ground := Go.Ground.phase }, { on := 6, ground := Go.Ground.phase }, { on := 7, ground := Go.Ground.phase }, { on := 8, ground := Go.Ground.phase }], guard := none }) rfl (fun K hK => ?_) AllReadyH.nil
  go_simp
  have hx9 : ∃ u v, P4 w ((u6.setCell ⟨w.heap.size + 3, 0, none⟩ (.int .i64 n)).setCell ⟨w.heap.size + 3, 1, none⟩ (.slice a7 R.length c7)) (.int .i64 n) (.slice a m ca) #[.int .i64 5, .int .i64 x, .int .i64 y, .int .i64 c, .int .i64 d] #[.nilFunc, .func (.func 184) #[] #[], .func (.func 185) #[] #[], .func (.func 186) #[] #[], .func (.func 187) #[] #[], .func (.func 187) #[] #[]] u v := ⟨_, _, ⟨(Q6.bl.setCell (p := ⟨w.heap.size + 3, 0, none⟩) (by show w.heap.size ≤ w.heap.size + 3; omega) _).setCell (p := ⟨w.heap.size + 3, 1, none⟩) (by show w.heap.size ≤ w.heap.size + 3; omega) _, (Q6.z.far (p := ⟨w.heap.size + 3, 0, none⟩) (by simp) _).far (p := ⟨w.heap.size + 3, 1, none⟩) (by simp) _, (Q6.s.far (p := ⟨w.heap.size + 3, 0, none⟩) (by simp) _).far (p := ⟨w.heap.size + 3, 1, none⟩) (by simp) _, (Q6.t.far (p := ⟨w.heap.size + 3, 0, none⟩) (by simp) _).far (p := ⟨w.heap.size + 3, 1, none⟩) (by simp) _, zh_set Q6.r _ _⟩⟩
  refine hK.out _ _ (hx9) (fun hHeld => ?_)
  clear hK K
  try simp only [Act.put, List.setIfInBounds_toArray, List.set_cons_zero, List.set_cons_succ]
  refine wpAnyH_take (i := 10) (oi := { dst := some 7, op := Go.Op.assign (Go.Operand.tmp 26), type := 27, pos := "post.go:66", after := #[{ on := 8, ground := Go.Ground.data }, { on := 9, ground := Go.Ground.chain }, { on := 0, ground := Go.Ground.phase }, { on := 1, ground := Go.Ground.phase }, { on := 2, ground := Go.Ground.phase }, { on := 3, ground := Go.Ground.phase }, { on := 4, ground := Go.Ground.phase }, { on := 5, ground := Go.Ground.phase }, { on := 6, ground := Go.Ground.phase }, { on := 7, ground := Go.Ground.phase }, { on := 8, ground := Go.Ground.phase }, { on := 9, ground := Go.Ground.phase }], guard := none }) (v := ?v45) rfl (by kernel_rfl) (by kernel_rfl) (by kernel_rfl) (fun _ _ _ h => h) (Or.inl ⟨by kernel_rfl, ?h45⟩) (by assumption) ?r45
  case h45 => (intro w hSw; (try dsimp only at hSw); go_simp; try with_reducible rfl)
  try simp only [Act.put, List.setIfInBounds_toArray, List.set_cons_zero, List.set_cons_succ]
  refine wpAnyH_done (by kernel_rfl) ?_ _
  have hfin := Lib.hid (zone_put (n := n) (err := 0) (X3.out.on (Below.refl _ _).drew).bl (by omega) (X3.out.on (Below.refl _ _).drew).r hc7 s7 b7 nw7)
  clear g0 g1 gt r0 r1 r2 r3 r4 y0 y1 f0 f1 hx6 hx9 hHeld Q6
  go_wp2
  exact zone_ret2 hfin.out.1 hfin.out.2.1 _ _ 6 7 rfl rfl rfl rfl
set_option maxRecDepth 100000 in
set_option maxHeartbeats 400000 in
theorem do_faults_5 (n : Nat) (x y c d : Int) (l R : List Int) (hz : IsZ n l) (hr : rightB 5 x y c d n = true) (a : Option Addr) (m ca : Nat)
    (hq : ∀ W, SL W a m ca l → Calls Tryz.prog 199 #[.agg #[.int .i64 n, .slice a m ca], .agg #[.int .i64 5, .int .i64 x, .int .i64 y, .int .i64 c, .int .i64 d]] W (ZoneE n R 0 W)) (w : World) (h : SL w a m ca l) : Calls Tryz.prog 144 #[.agg #[.int .i64 n, .slice a m ca], .agg #[.int .i64 5, .int .i64 x, .int .i64 y, .int .i64 c, .int .i64 d], .agg #[.nilFunc, .func (.func 198) #[] #[], .func (.func 198) #[] #[], .func (.func 198) #[] #[], .func (.func 198) #[] #[], .func (.func 199) #[] #[]]] w (ZoneE n R 0 w) := by
  obtain ⟨W1, hW1⟩ : ∃ W1, W1 = (((w.alloc (.cells #[.int .i64 n, .slice a m ca] 51)).alloc (.cells #[.int .i64 5, .int .i64 x, .int .i64 y, .int .i64 c, .int .i64 d] 73)).alloc (.cells #[.nilFunc, .func (.func 198) #[] #[], .func (.func 198) #[] #[], .func (.func 198) #[] #[], .func (.func 198) #[] #[], .func (.func 199) #[] #[]] 167)).alloc (.cells #[.int .i64 0, .slice none 0 0] 51) := ⟨_, rfl⟩
  have X1 : P4 w W1 (.int .i64 n) (.slice a m ca) #[.int .i64 5, .int .i64 x, .int .i64 y, .int .i64 c, .int .i64 d] #[.nilFunc, .func (.func 198) #[] #[], .func (.func 198) #[] #[], .func (.func 198) #[] #[], .func (.func 198) #[] #[], .func (.func 199) #[] #[]] (.int .i64 0) (.slice none 0 0) := by rw [hW1]; exact p4_new _ _ _ _ _
  have hW1' := Lib.hid hW1
  have XP := Lib.hid X1
  have k0 := X1.z.cell 0
  have k1 := X1.z.cell 1
  have s0 := X1.s.cell 0
  have s1 := X1.s.cell 1
  have s2 := X1.s.cell 2
  have s3 := X1.s.cell 3
  have s4 := X1.s.cell 4
  have kl := X1.z.lt
  have q1 := Lib.hid (dcheck_any n a m ca l W1 (h.below X1.bl))
  rw [show chk n l = 0 by unfold chk; rw [hz.check]; rfl] at q1
  have q2 := Lib.hid (fun W => right_any 5 x y c d n W)
  rw [hr] at q2
  have hq' := Lib.hid hq
  have hS := Lib.hid h
  clear hW1 X1 h hz hq hr
  go_enter Tryz.func144, Tryz.ntmps144
  go_wp2_with fail
  rw [← hW1'.out]
  refine q1.out.mono ?_
  rintro e w2 ⟨rfl, b2⟩
  have X2 := Lib.hid (XP.out.on b2)
  clear b2 q1 k0 k1 s0 s1 s2 s3 s4 kl XP hW1'
  have k0 := X2.out.z.cell 0
  have s0 := X2.out.s.cell 0
  have s1 := X2.out.s.cell 1
  have s2 := X2.out.s.cell 2
  have s3 := X2.out.s.cell 3
  have s4 := X2.out.s.cell 4
  go_wp2_with fail
  refine (q2.out _).mono ?_
  rintro e w3 ⟨rfl, b3⟩
  have X3 := Lib.hid (X2.out.on b3)
  clear b3 q2 k0 s0 s1 s2 s3 s4 X2
  have D : ∀ W, P4 w W (.int .i64 n) (.slice a m ca) #[.int .i64 5, .int .i64 x, .int .i64 y, .int .i64 c, .int .i64 d] #[.nilFunc, .func (.func 198) #[] #[], .func (.func 198) #[] #[], .func (.func 198) #[] #[], .func (.func 198) #[] #[], .func (.func 199) #[] #[]] (.int .i64 0) (.slice none 0 0) → W.cell? ⟨w.heap.size + 1, 0, none⟩ = some (.int .i64 5) := fun W hW => hW.s.cell 0
  go_wp2
  have g0 : ∀ W, (∃ u v, P4 w W (.int .i64 n) (.slice a m ca) #[.int .i64 5, .int .i64 x, .int .i64 y, .int .i64 c, .int .i64 d] #[.nilFunc, .func (.func 198) #[] #[], .func (.func 198) #[] #[], .func (.func 198) #[] #[], .func (.func 198) #[] #[], .func (.func 199) #[] #[]] u v) → W.cell? ⟨w.heap.size, 0, none⟩ = some (.int .i64 n) := fun W hW => by obtain ⟨_, _, hP⟩ := hW; exact hP.z.cell 0
  have g1 : ∀ W, (∃ u v, P4 w W (.int .i64 n) (.slice a m ca) #[.int .i64 5, .int .i64 x, .int .i64 y, .int .i64 c, .int .i64 d] #[.nilFunc, .func (.func 198) #[] #[], .func (.func 198) #[] #[], .func (.func 198) #[] #[], .func (.func 198) #[] #[], .func (.func 199) #[] #[]] u v) → W.cell? ⟨w.heap.size, 1, none⟩ = some (.slice a m ca) := fun W hW => by obtain ⟨_, _, hP⟩ := hW; exact hP.z.cell 1
  have gt : ∀ W, (∃ u v, P4 w W (.int .i64 n) (.slice a m ca) #[.int .i64 5, .int .i64 x, .int .i64 y, .int .i64 c, .int .i64 d] #[.nilFunc, .func (.func 198) #[] #[], .func (.func 198) #[] #[], .func (.func 198) #[] #[], .func (.func 198) #[] #[], .func (.func 199) #[] #[]] u v) → W.cell? ⟨w.heap.size + 2, 5, none⟩ = some (.func (.func 199) #[] #[]) := fun W hW => by obtain ⟨_, _, hP⟩ := hW; exact hP.t.cell 5
  have r0 : ∀ W, (∃ u v, P4 w W (.int .i64 n) (.slice a m ca) #[.int .i64 5, .int .i64 x, .int .i64 y, .int .i64 c, .int .i64 d] #[.nilFunc, .func (.func 198) #[] #[], .func (.func 198) #[] #[], .func (.func 198) #[] #[], .func (.func 198) #[] #[], .func (.func 199) #[] #[]] u v) → W.cell? ⟨w.heap.size + 1, 0, none⟩ = some (.int .i64 5) := fun W hW => by obtain ⟨_, _, hP⟩ := hW; exact hP.s.cell 0
  have r1 : ∀ W, (∃ u v, P4 w W (.int .i64 n) (.slice a m ca) #[.int .i64 5, .int .i64 x, .int .i64 y, .int .i64 c, .int .i64 d] #[.nilFunc, .func (.func 198) #[] #[], .func (.func 198) #[] #[], .func (.func 198) #[] #[], .func (.func 198) #[] #[], .func (.func 199) #[] #[]] u v) → W.cell? ⟨w.heap.size + 1, 1, none⟩ = some (.int .i64 x) := fun W hW => by obtain ⟨_, _, hP⟩ := hW; exact hP.s.cell 1
  have r2 : ∀ W, (∃ u v, P4 w W (.int .i64 n) (.slice a m ca) #[.int .i64 5, .int .i64 x, .int .i64 y, .int .i64 c, .int .i64 d] #[.nilFunc, .func (.func 198) #[] #[], .func (.func 198) #[] #[], .func (.func 198) #[] #[], .func (.func 198) #[] #[], .func (.func 199) #[] #[]] u v) → W.cell? ⟨w.heap.size + 1, 2, none⟩ = some (.int .i64 y) := fun W hW => by obtain ⟨_, _, hP⟩ := hW; exact hP.s.cell 2
  have r3 : ∀ W, (∃ u v, P4 w W (.int .i64 n) (.slice a m ca) #[.int .i64 5, .int .i64 x, .int .i64 y, .int .i64 c, .int .i64 d] #[.nilFunc, .func (.func 198) #[] #[], .func (.func 198) #[] #[], .func (.func 198) #[] #[], .func (.func 198) #[] #[], .func (.func 199) #[] #[]] u v) → W.cell? ⟨w.heap.size + 1, 3, none⟩ = some (.int .i64 c) := fun W hW => by obtain ⟨_, _, hP⟩ := hW; exact hP.s.cell 3
  have r4 : ∀ W, (∃ u v, P4 w W (.int .i64 n) (.slice a m ca) #[.int .i64 5, .int .i64 x, .int .i64 y, .int .i64 c, .int .i64 d] #[.nilFunc, .func (.func 198) #[] #[], .func (.func 198) #[] #[], .func (.func 198) #[] #[], .func (.func 198) #[] #[], .func (.func 199) #[] #[]] u v) → W.cell? ⟨w.heap.size + 1, 4, none⟩ = some (.int .i64 d) := fun W hW => by obtain ⟨_, _, hP⟩ := hW; exact hP.s.cell 4
  clear D
  refine wp_drawn_on (fun W => ∃ u v, P4 w W (.int .i64 n) (.slice a m ca) #[.int .i64 5, .int .i64 x, .int .i64 y, .int .i64 c, .int .i64 d] #[.nilFunc, .func (.func 198) #[] #[], .func (.func 198) #[] #[], .func (.func 198) #[] #[], .func (.func 198) #[] #[], .func (.func 199) #[] #[]] u v) (by kernel_rfl) (⟨_, _, X3.out.on (Below.refl _ _).drew⟩) (fun hHeld => ?_)
  refine wpAnyH_take (i := 0) (oi := { dst := some 18, op := Go.Op.fieldAddr 73 (Go.Operand.tmp 4) 0, type := 0, pos := "post.go:66", after := #[], guard := none }) (v := ?v82) rfl (by kernel_rfl) (by kernel_rfl) (by kernel_rfl) (fun _ _ _ h => h) (Or.inl ⟨by kernel_rfl, ?h82⟩) (by assumption) ?r82
  case h82 => (intro w hSw; (try dsimp only at hSw); go_simp; try with_reducible rfl)
  try simp only [Act.put, List.setIfInBounds_toArray, List.set_cons_zero, List.set_cons_succ]
  refine wpAnyH_take (i := 1) (oi := { dst := some 19, op := Go.Op.load 3 (Go.Operand.tmp 18), type := 3, pos := "post.go:66", after := #[{ on := 0, ground := Go.Ground.data }], guard := none }) (v := ?v83) rfl (by kernel_rfl) (by kernel_rfl) (by kernel_rfl) (fun _ _ _ h => h) (Or.inl ⟨by kernel_rfl, ?h83⟩) (by assumption) ?r83
  case h83 => (intro w hSw; (try dsimp only at hSw); go_simp; try with_reducible rfl)
  try simp only [Act.put, List.setIfInBounds_toArray, List.set_cons_zero, List.set_cons_succ]
  refine wpAnyH_take (i := 2) (oi := { dst := some 20, op := Go.Op.indexAddr 167 (Go.Operand.tmp 5) (Go.Operand.tmp 19), type := 0, pos := "post.go:66", after := #[{ on := 1, ground := Go.Ground.data }], guard := none }) (v := ?v84) rfl (by kernel_rfl) (by kernel_rfl) (by kernel_rfl) (fun _ _ _ h => h) (Or.inl ⟨by kernel_rfl, ?h84⟩) (by assumption) ?r84
  case h84 => (intro w hSw; (try dsimp only at hSw); go_simp; try with_reducible rfl)
  try simp only [Act.put, List.setIfInBounds_toArray, List.set_cons_zero, List.set_cons_succ]
  refine wpAnyH_take (i := 3) (oi := { dst := some 21, op := Go.Op.load 166 (Go.Operand.tmp 20), type := 166, pos := "post.go:66", after := #[{ on := 2, ground := Go.Ground.data }], guard := none }) (v := ?v85) rfl (by kernel_rfl) (by kernel_rfl) (by kernel_rfl) (fun _ _ _ h => h) (Or.inl ⟨by kernel_rfl, ?h85⟩) (by assumption) ?r85
  case h85 => (intro w hSw; (try dsimp only at hSw); go_simp; try with_reducible rfl)
  try simp only [Act.put, List.setIfInBounds_toArray, List.set_cons_zero, List.set_cons_succ]
  refine wpAnyH_take (i := 4) (oi := { dst := some 22, op := Go.Op.load 51 (Go.Operand.tmp 3), type := 51, pos := "post.go:66", after := #[], guard := none }) (v := ?v86) rfl (by kernel_rfl) (by kernel_rfl) (by kernel_rfl) (fun _ _ _ h => h) (Or.inl ⟨by kernel_rfl, ?h86⟩) (by assumption) ?r86
  case h86 => (intro w hSw; (try dsimp only at hSw); go_simp; try with_reducible rfl)
  try simp only [Act.put, List.setIfInBounds_toArray, List.set_cons_zero, List.set_cons_succ]
  refine wpAnyH_take (i := 5) (oi := { dst := some 23, op := Go.Op.load 73 (Go.Operand.tmp 4), type := 73, pos := "post.go:66", after := #[], guard := none }) (v := ?v87) rfl (by kernel_rfl) (by kernel_rfl) (by kernel_rfl) (fun _ _ _ h => h) (Or.inl ⟨by kernel_rfl, ?h87⟩) (by assumption) ?r87
  case h87 => (intro w hSw; (try dsimp only at hSw); go_simp; try with_reducible rfl)
  try simp only [Act.put, List.setIfInBounds_toArray, List.set_cons_zero, List.set_cons_succ]
  refine wpAnyH_ready (rs := [6]) (by kernel_rfl) (by simp) ?_
  refine AllReadyH.cons (o := { dst := some 24, op := Go.Op.call { callee := Go.Callee.value (Go.Operand.tmp 21), args := #[Go.Operand.tmp 22, Go.Operand.tmp 23], argTypes := #[51, 73] }, type := 126, pos := "post.go:66", after := #[{ on := 3, ground := Go.Ground.data }, { on := 4, ground := Go.Ground.data }, { on := 5, ground := Go.Ground.data }], guard := none }) rfl (fun K hK => ?_) AllReadyH.nil
  go_simp
  refine (hq'.out _ (hS.out.below (X3.out.on (Below.refl _ _).drew).bl)).mono ?_
  rintro e u6 ⟨a7, c7, rfl, hc7, s7, b7, nw7⟩
  have Q6 := (X3.out.on (Below.refl _ _).drew).on b7
  have hx6 : ∃ u v, P4 w u6 (.int .i64 n) (.slice a m ca) #[.int .i64 5, .int .i64 x, .int .i64 y, .int .i64 c, .int .i64 d] #[.nilFunc, .func (.func 198) #[] #[], .func (.func 198) #[] #[], .func (.func 198) #[] #[], .func (.func 198) #[] #[], .func (.func 199) #[] #[]] u v := ⟨_, _, Q6⟩
  have y0 := Q6.r.cell 0
  have y1 := Q6.r.cell 1
  have f0 := Q6.r.free 0
  have f1 := Q6.r.free 1
  go_simp
  refine hK.out _ _ (hx6) (fun hHeld => ?_)
  clear hK K
  try simp only [Act.put, List.setIfInBounds_toArray, List.set_cons_zero, List.set_cons_succ]
  refine wpAnyH_take (i := 7) (oi := { dst := some 25, op := Go.Op.extract (Go.Operand.tmp 24) 0, type := 51, pos := "post.go:66", after := #[{ on := 6, ground := Go.Ground.data }], guard := none }) (v := ?v88) rfl (by kernel_rfl) (by kernel_rfl) (by kernel_rfl) (fun _ _ _ h => h) (Or.inl ⟨by kernel_rfl, ?h88⟩) (by assumption) ?r88
  case h88 => (intro w hSw; (try dsimp only at hSw); go_simp; try with_reducible rfl)
  try simp only [Act.put, List.setIfInBounds_toArray, List.set_cons_zero, List.set_cons_succ]
  refine wpAnyH_take (i := 8) (oi := { dst := some 26, op := Go.Op.extract (Go.Operand.tmp 24) 1, type := 27, pos := "post.go:66", after := #[{ on := 6, ground := Go.Ground.data }], guard := none }) (v := ?v89) rfl (by kernel_rfl) (by kernel_rfl) (by kernel_rfl) (fun _ _ _ h => h) (Or.inl ⟨by kernel_rfl, ?h89⟩) (by assumption) ?r89
  case h89 => (intro w hSw; (try dsimp only at hSw); go_simp; try with_reducible rfl)
  try simp only [Act.put, List.setIfInBounds_toArray, List.set_cons_zero, List.set_cons_succ]
  refine wpAnyH_ready (rs := [9]) (by kernel_rfl) (by simp) ?_
  refine AllReadyH.cons (o := { dst := none, op := Go.Op.store 51 (Go.Operand.tmp 6) (Go.Operand.tmp 25), type := 0, pos := "post.go:66", after := #[{ on := 7, ground := Go.Ground.data }, { on := 6, ground := Go.Ground.chain }, { on := 0, ground := Go.Ground.phase }, { on := 1, ground := Go.Ground.phase }, { on := 2, ground := Go.Ground.phase }, { on := 3, ground := Go.Ground.phase }, { on := 4, ground := Go.Ground.phase }, { on := 5, ground := Go.Ground.phase }, { on := 6, ground := Go.Ground.phase }, { on := 7, ground := Go.Ground.phase }, { on := 8, ground := Go.Ground.phase }], guard := none }) rfl (fun K hK => ?_) AllReadyH.nil
  go_simp
  have hx9 : ∃ u v, P4 w ((u6.setCell ⟨w.heap.size + 3, 0, none⟩ (.int .i64 n)).setCell ⟨w.heap.size + 3, 1, none⟩ (.slice a7 R.length c7)) (.int .i64 n) (.slice a m ca) #[.int .i64 5, .int .i64 x, .int .i64 y, .int .i64 c, .int .i64 d] #[.nilFunc, .func (.func 198) #[] #[], .func (.func 198) #[] #[], .func (.func 198) #[] #[], .func (.func 198) #[] #[], .func (.func 199) #[] #[]] u v := ⟨_, _, ⟨(Q6.bl.setCell (p := ⟨w.heap.size + 3, 0, none⟩) (by show w.heap.size ≤ w.heap.size + 3; omega) _).setCell (p := ⟨w.heap.size + 3, 1, none⟩) (by show w.heap.size ≤ w.heap.size + 3; omega) _, (Q6.z.far (p := ⟨w.heap.size + 3, 0, none⟩) (by simp) _).far (p := ⟨w.heap.size + 3, 1, none⟩) (by simp) _, (Q6.s.far (p := ⟨w.heap.size + 3, 0, none⟩) (by simp) _).far (p := ⟨w.heap.size + 3, 1, none⟩) (by simp) _, (Q6.t.far (p := ⟨w.heap.size + 3, 0, none⟩) (by simp) _).far (p := ⟨w.heap.size + 3, 1, none⟩) (by simp) _, zh_set Q6.r _ _⟩⟩
  refine hK.out _ _ (hx9) (fun hHeld => ?_)
  clear hK K
  try simp only [Act.put, List.setIfInBounds_toArray, List.set_cons_zero, List.set_cons_succ]
  refine wpAnyH_take (i := 10) (oi := { dst := some 7, op := Go.Op.assign (Go.Operand.tmp 26), type := 27, pos := "post.go:66", after := #[{ on := 8, ground := Go.Ground.data }, { on := 9, ground := Go.Ground.chain }, { on := 0, ground := Go.Ground.phase }, { on := 1, ground := Go.Ground.phase }, { on := 2, ground := Go.Ground.phase }, { on := 3, ground := Go.Ground.phase }, { on := 4, ground := Go.Ground.phase }, { on := 5, ground := Go.Ground.phase }, { on := 6, ground := Go.Ground.phase }, { on := 7, ground := Go.Ground.phase }, { on := 8, ground := Go.Ground.phase }, { on := 9, ground := Go.Ground.phase }], guard := none }) (v := ?v90) rfl (by kernel_rfl) (by kernel_rfl) (by kernel_rfl) (fun _ _ _ h => h) (Or.inl ⟨by kernel_rfl, ?h90⟩) (by assumption) ?r90
  case h90 => (intro w hSw; (try dsimp only at hSw); go_simp; try with_reducible rfl)
  try simp only [Act.put, List.setIfInBounds_toArray, List.set_cons_zero, List.set_cons_succ]
  refine wpAnyH_done (by kernel_rfl) ?_ _
  have hfin := Lib.hid (zone_put (n := n) (err := 0) (X3.out.on (Below.refl _ _).drew).bl (by omega) (X3.out.on (Below.refl _ _).drew).r hc7 s7 b7 nw7)
  clear g0 g1 gt r0 r1 r2 r3 r4 y0 y1 f0 f1 hx6 hx9 hHeld Q6
  go_wp2
  exact zone_ret2 hfin.out.1 hfin.out.2.1 _ _ 6 7 rfl rfl rfl rfl
set_option maxRecDepth 100000 in
set_option maxHeartbeats 400000 in
theorem Post_of (n k x y c d nr E : Int) (R : List Int) (a : Option Addr) (m ca : Nat) (w : World) (hq : ∀ W, Below w.heap.size w W → Calls Tryz.prog 144 #[.agg #[.int .i64 n, .slice a m ca], .agg #[.int .i64 k, .int .i64 x, .int .i64 y, .int .i64 c, .int .i64 d], .agg #[.nilFunc, .func (.func 184) #[] #[], .func (.func 185) #[] #[], .func (.func 186) #[] #[], .func (.func 187) #[] #[], .func (.func 187) #[] #[]]] W (ZoneE nr R E W)) : Calls Tryz.prog 100 #[.agg #[.int .i64 n, .slice a m ca], .agg #[.int .i64 k, .int .i64 x, .int .i64 y, .int .i64 c, .int .i64 d]] w (ZoneE nr R E w) := by
  obtain ⟨W1, hW1⟩ : ∃ W1, W1 = ((w.alloc (.cells #[.int .i64 n, .slice a m ca] 51)).alloc (.cells #[.int .i64 k, .int .i64 x, .int .i64 y, .int .i64 c, .int .i64 d] 73)).alloc (.cells #[.int .i64 0, .slice none 0 0] 51) := ⟨_, rfl⟩
  have X1 : P3 w W1 (.int .i64 n) (.slice a m ca) #[.int .i64 k, .int .i64 x, .int .i64 y, .int .i64 c, .int .i64 d] (.int .i64 0) (.slice none 0 0) := by rw [hW1]; exact p3_new _ _ _ _
  have hW1' := Lib.hid hW1
  have XP := Lib.hid X1
  have hq' := Lib.hid hq
  clear hW1 X1 hq
  go_enter Tryz.func100, Tryz.ntmps100
  go_wp2
  rw [← hW1'.out]
  have g0 : ∀ W, (∃ u v, P3 w W (.int .i64 n) (.slice a m ca) #[.int .i64 k, .int .i64 x, .int .i64 y, .int .i64 c, .int .i64 d] u v) → W.cell? ⟨w.heap.size, 0, none⟩ = some (.int .i64 n) := fun W hW => by obtain ⟨_, _, hP⟩ := hW; exact hP.z.cell 0
  have g1 : ∀ W, (∃ u v, P3 w W (.int .i64 n) (.slice a m ca) #[.int .i64 k, .int .i64 x, .int .i64 y, .int .i64 c, .int .i64 d] u v) → W.cell? ⟨w.heap.size, 1, none⟩ = some (.slice a m ca) := fun W hW => by obtain ⟨_, _, hP⟩ := hW; exact hP.z.cell 1
  have r0 : ∀ W, (∃ u v, P3 w W (.int .i64 n) (.slice a m ca) #[.int .i64 k, .int .i64 x, .int .i64 y, .int .i64 c, .int .i64 d] u v) → W.cell? ⟨w.heap.size + 1, 0, none⟩ = some (.int .i64 k) := fun W hW => by obtain ⟨_, _, hP⟩ := hW; exact hP.s.cell 0
  have r1 : ∀ W, (∃ u v, P3 w W (.int .i64 n) (.slice a m ca) #[.int .i64 k, .int .i64 x, .int .i64 y, .int .i64 c, .int .i64 d] u v) → W.cell? ⟨w.heap.size + 1, 1, none⟩ = some (.int .i64 x) := fun W hW => by obtain ⟨_, _, hP⟩ := hW; exact hP.s.cell 1
  have r2 : ∀ W, (∃ u v, P3 w W (.int .i64 n) (.slice a m ca) #[.int .i64 k, .int .i64 x, .int .i64 y, .int .i64 c, .int .i64 d] u v) → W.cell? ⟨w.heap.size + 1, 2, none⟩ = some (.int .i64 y) := fun W hW => by obtain ⟨_, _, hP⟩ := hW; exact hP.s.cell 2
  have r3 : ∀ W, (∃ u v, P3 w W (.int .i64 n) (.slice a m ca) #[.int .i64 k, .int .i64 x, .int .i64 y, .int .i64 c, .int .i64 d] u v) → W.cell? ⟨w.heap.size + 1, 3, none⟩ = some (.int .i64 c) := fun W hW => by obtain ⟨_, _, hP⟩ := hW; exact hP.s.cell 3
  have r4 : ∀ W, (∃ u v, P3 w W (.int .i64 n) (.slice a m ca) #[.int .i64 k, .int .i64 x, .int .i64 y, .int .i64 c, .int .i64 d] u v) → W.cell? ⟨w.heap.size + 1, 4, none⟩ = some (.int .i64 d) := fun W hW => by obtain ⟨_, _, hP⟩ := hW; exact hP.s.cell 4
  refine wp_drawn_on (fun W => ∃ u v, P3 w W (.int .i64 n) (.slice a m ca) #[.int .i64 k, .int .i64 x, .int .i64 y, .int .i64 c, .int .i64 d] u v) (by kernel_rfl) (⟨_, _, XP.out.on (Below.refl _ _).drew⟩) (fun hHeld => ?_)
  refine wpAnyH_take (i := 0) (oi := { dst := some 6, op := Go.Op.load 51 (Go.Operand.tmp 2), type := 51, pos := "post.go:70", after := #[], guard := none }) (v := ?v91) rfl (by kernel_rfl) (by kernel_rfl) (by kernel_rfl) (fun _ _ _ h => h) (Or.inl ⟨by kernel_rfl, ?h91⟩) (by assumption) ?r91
  case h91 => (intro w hSw; (try dsimp only at hSw); go_simp; try with_reducible rfl)
  try simp only [Act.put, List.setIfInBounds_toArray, List.set_cons_zero, List.set_cons_succ]
  refine wpAnyH_take (i := 1) (oi := { dst := some 7, op := Go.Op.load 73 (Go.Operand.tmp 3), type := 73, pos := "post.go:70", after := #[], guard := none }) (v := ?v92) rfl (by kernel_rfl) (by kernel_rfl) (by kernel_rfl) (fun _ _ _ h => h) (Or.inl ⟨by kernel_rfl, ?h92⟩) (by assumption) ?r92
  case h92 => (intro w hSw; (try dsimp only at hSw); go_simp; try with_reducible rfl)
  try simp only [Act.put, List.setIfInBounds_toArray, List.set_cons_zero, List.set_cons_succ]
  refine wpAnyH_ready (rs := [2]) (by kernel_rfl) (by simp) ?_
  refine AllReadyH.cons (o := { dst := some 8, op := Go.Op.call { callee := Go.Callee.value (Go.Operand.func 145), args := #[], argTypes := #[] }, type := 167, pos := "post.go:70", after := #[], guard := none }) rfl (fun K hK => ?_) AllReadyH.nil
  go_simp
  refine (steps_any _).mono ?_
  rintro e u2 ⟨rfl, b2⟩
  have Q2 := (XP.out.on (Below.refl _ _).drew).on b2
  have hx2 : ∃ u v, P3 w u2 (.int .i64 n) (.slice a m ca) #[.int .i64 k, .int .i64 x, .int .i64 y, .int .i64 c, .int .i64 d] u v := ⟨_, _, Q2⟩
  go_simp
  refine hK.out _ _ (hx2) (fun hHeld => ?_)
  clear hK K
  try simp only [Act.put, List.setIfInBounds_toArray, List.set_cons_zero, List.set_cons_succ]
  refine wpAnyH_ready (rs := [3]) (by kernel_rfl) (by simp) ?_
  refine AllReadyH.cons (o := { dst := some 9, op := Go.Op.call { callee := Go.Callee.value (Go.Operand.func 144), args := #[Go.Operand.tmp 6, Go.Operand.tmp 7, Go.Operand.tmp 8], argTypes := #[51, 73, 167] }, type := 126, pos := "post.go:70", after := #[{ on := 0, ground := Go.Ground.data }, { on := 1, ground := Go.Ground.data }, { on := 2, ground := Go.Ground.data }, { on := 2, ground := Go.Ground.chain }], guard := none }) rfl (fun K hK => ?_) AllReadyH.nil
  go_simp
  refine (hq'.out _ Q2.bl).mono ?_
  rintro e u6 ⟨a7, c7, rfl, hc7, s7, b7, nw7⟩
  have Q6 := Q2.on b7
  have hx6 : ∃ u v, P3 w u6 (.int .i64 n) (.slice a m ca) #[.int .i64 k, .int .i64 x, .int .i64 y, .int .i64 c, .int .i64 d] u v := ⟨_, _, Q6⟩
  have y0 := Q6.r.cell 0
  have y1 := Q6.r.cell 1
  have f0 := Q6.r.free 0
  have f1 := Q6.r.free 1
  go_simp
  refine hK.out _ _ (hx6) (fun hHeld => ?_)
  clear hK K
  try simp only [Act.put, List.setIfInBounds_toArray, List.set_cons_zero, List.set_cons_succ]
  refine wpAnyH_take (i := 4) (oi := { dst := some 10, op := Go.Op.extract (Go.Operand.tmp 9) 0, type := 51, pos := "post.go:70", after := #[{ on := 3, ground := Go.Ground.data }], guard := none }) (v := ?v93) rfl (by kernel_rfl) (by kernel_rfl) (by kernel_rfl) (fun _ _ _ h => h) (Or.inl ⟨by kernel_rfl, ?h93⟩) (by assumption) ?r93
  case h93 => (intro w hSw; (try dsimp only at hSw); go_simp; try with_reducible rfl)
  try simp only [Act.put, List.setIfInBounds_toArray, List.set_cons_zero, List.set_cons_succ]
  refine wpAnyH_take (i := 5) (oi := { dst := some 11, op := Go.Op.extract (Go.Operand.tmp 9) 1, type := 27, pos := "post.go:70", after := #[{ on := 3, ground := Go.Ground.data }], guard := none }) (v := ?v94) rfl (by kernel_rfl) (by kernel_rfl) (by kernel_rfl) (fun _ _ _ h => h) (Or.inl ⟨by kernel_rfl, ?h94⟩) (by assumption) ?r94
  case h94 => (intro w hSw; (try dsimp only at hSw); go_simp; try with_reducible rfl)
  try simp only [Act.put, List.setIfInBounds_toArray, List.set_cons_zero, List.set_cons_succ]
  refine wpAnyH_ready (rs := [6]) (by kernel_rfl) (by simp) ?_
  refine AllReadyH.cons (o := { dst := none, op := Go.Op.store 51 (Go.Operand.tmp 4) (Go.Operand.tmp 10), type := 0, pos := "post.go:70", after := #[{ on := 4, ground := Go.Ground.data }, { on := 3, ground := Go.Ground.chain }, { on := 0, ground := Go.Ground.phase }, { on := 1, ground := Go.Ground.phase }, { on := 2, ground := Go.Ground.phase }, { on := 3, ground := Go.Ground.phase }, { on := 4, ground := Go.Ground.phase }, { on := 5, ground := Go.Ground.phase }], guard := none }) rfl (fun K hK => ?_) AllReadyH.nil
  go_simp
  have hx9 : ∃ u v, P3 w ((u6.setCell ⟨w.heap.size + 2, 0, none⟩ (.int .i64 nr)).setCell ⟨w.heap.size + 2, 1, none⟩ (.slice a7 R.length c7)) (.int .i64 n) (.slice a m ca) #[.int .i64 k, .int .i64 x, .int .i64 y, .int .i64 c, .int .i64 d] u v := ⟨_, _, ⟨(Q6.bl.setCell (p := ⟨w.heap.size + 2, 0, none⟩) (by show w.heap.size ≤ w.heap.size + 2; omega) _).setCell (p := ⟨w.heap.size + 2, 1, none⟩) (by show w.heap.size ≤ w.heap.size + 2; omega) _, (Q6.z.far (p := ⟨w.heap.size + 2, 0, none⟩) (by simp) _).far (p := ⟨w.heap.size + 2, 1, none⟩) (by simp) _, (Q6.s.far (p := ⟨w.heap.size + 2, 0, none⟩) (by simp) _).far (p := ⟨w.heap.size + 2, 1, none⟩) (by simp) _, zh_set Q6.r _ _⟩⟩
  refine hK.out _ _ (hx9) (fun hHeld => ?_)
  clear hK K
  try simp only [Act.put, List.setIfInBounds_toArray, List.set_cons_zero, List.set_cons_succ]
  refine wpAnyH_take (i := 7) (oi := { dst := some 5, op := Go.Op.assign (Go.Operand.tmp 11), type := 27, pos := "post.go:70", after := #[{ on := 5, ground := Go.Ground.data }, { on := 6, ground := Go.Ground.chain }, { on := 0, ground := Go.Ground.phase }, { on := 1, ground := Go.Ground.phase }, { on := 2, ground := Go.Ground.phase }, { on := 3, ground := Go.Ground.phase }, { on := 4, ground := Go.Ground.phase }, { on := 5, ground := Go.Ground.phase }, { on := 6, ground := Go.Ground.phase }], guard := none }) (v := ?v95) rfl (by kernel_rfl) (by kernel_rfl) (by kernel_rfl) (fun _ _ _ h => h) (Or.inl ⟨by kernel_rfl, ?h95⟩) (by assumption) ?r95
  case h95 => (intro w hSw; (try dsimp only at hSw); go_simp; try with_reducible rfl)
  try simp only [Act.put, List.setIfInBounds_toArray, List.set_cons_zero, List.set_cons_succ]
  refine wpAnyH_done (by kernel_rfl) ?_ _
  have hfin := Lib.hid (zone_put (n := nr) (err := E) Q2.bl (by omega) Q2.r hc7 s7 b7 nw7)
  clear g0 g1 r0 r1 r2 r3 r4 y0 y1 f0 f1 hx6 hx9 hx2 hHeld Q6 Q2
  go_wp2
  exact zone_ret2 hfin.out.1 hfin.out.2.1 _ _ 4 5 rfl rfl rfl rfl
set_option maxRecDepth 100000 in
set_option maxHeartbeats 400000 in
theorem Fault_of (n k x y c d nr E : Int) (R : List Int) (a : Option Addr) (m ca : Nat) (w : World) (hq : ∀ W, Below w.heap.size w W → Calls Tryz.prog 144 #[.agg #[.int .i64 n, .slice a m ca], .agg #[.int .i64 k, .int .i64 x, .int .i64 y, .int .i64 c, .int .i64 d], .agg #[.nilFunc, .func (.func 198) #[] #[], .func (.func 198) #[] #[], .func (.func 198) #[] #[], .func (.func 198) #[] #[], .func (.func 199) #[] #[]]] W (ZoneE nr R E W)) : Calls Tryz.prog 134 #[.agg #[.int .i64 n, .slice a m ca], .agg #[.int .i64 k, .int .i64 x, .int .i64 y, .int .i64 c, .int .i64 d]] w (ZoneE nr R E w) := by
  obtain ⟨W1, hW1⟩ : ∃ W1, W1 = ((w.alloc (.cells #[.int .i64 n, .slice a m ca] 51)).alloc (.cells #[.int .i64 k, .int .i64 x, .int .i64 y, .int .i64 c, .int .i64 d] 73)).alloc (.cells #[.int .i64 0, .slice none 0 0] 51) := ⟨_, rfl⟩
  have X1 : P3 w W1 (.int .i64 n) (.slice a m ca) #[.int .i64 k, .int .i64 x, .int .i64 y, .int .i64 c, .int .i64 d] (.int .i64 0) (.slice none 0 0) := by rw [hW1]; exact p3_new _ _ _ _
  have hW1' := Lib.hid hW1
  have XP := Lib.hid X1
  have hq' := Lib.hid hq
  clear hW1 X1 hq
  go_enter Tryz.func134, Tryz.ntmps134
  go_wp2
  rw [← hW1'.out]
  have g0 : ∀ W, (∃ u v, P3 w W (.int .i64 n) (.slice a m ca) #[.int .i64 k, .int .i64 x, .int .i64 y, .int .i64 c, .int .i64 d] u v) → W.cell? ⟨w.heap.size, 0, none⟩ = some (.int .i64 n) := fun W hW => by obtain ⟨_, _, hP⟩ := hW; exact hP.z.cell 0
  have g1 : ∀ W, (∃ u v, P3 w W (.int .i64 n) (.slice a m ca) #[.int .i64 k, .int .i64 x, .int .i64 y, .int .i64 c, .int .i64 d] u v) → W.cell? ⟨w.heap.size, 1, none⟩ = some (.slice a m ca) := fun W hW => by obtain ⟨_, _, hP⟩ := hW; exact hP.z.cell 1
  have r0 : ∀ W, (∃ u v, P3 w W (.int .i64 n) (.slice a m ca) #[.int .i64 k, .int .i64 x, .int .i64 y, .int .i64 c, .int .i64 d] u v) → W.cell? ⟨w.heap.size + 1, 0, none⟩ = some (.int .i64 k) := fun W hW => by obtain ⟨_, _, hP⟩ := hW; exact hP.s.cell 0
  have r1 : ∀ W, (∃ u v, P3 w W (.int .i64 n) (.slice a m ca) #[.int .i64 k, .int .i64 x, .int .i64 y, .int .i64 c, .int .i64 d] u v) → W.cell? ⟨w.heap.size + 1, 1, none⟩ = some (.int .i64 x) := fun W hW => by obtain ⟨_, _, hP⟩ := hW; exact hP.s.cell 1
  have r2 : ∀ W, (∃ u v, P3 w W (.int .i64 n) (.slice a m ca) #[.int .i64 k, .int .i64 x, .int .i64 y, .int .i64 c, .int .i64 d] u v) → W.cell? ⟨w.heap.size + 1, 2, none⟩ = some (.int .i64 y) := fun W hW => by obtain ⟨_, _, hP⟩ := hW; exact hP.s.cell 2
  have r3 : ∀ W, (∃ u v, P3 w W (.int .i64 n) (.slice a m ca) #[.int .i64 k, .int .i64 x, .int .i64 y, .int .i64 c, .int .i64 d] u v) → W.cell? ⟨w.heap.size + 1, 3, none⟩ = some (.int .i64 c) := fun W hW => by obtain ⟨_, _, hP⟩ := hW; exact hP.s.cell 3
  have r4 : ∀ W, (∃ u v, P3 w W (.int .i64 n) (.slice a m ca) #[.int .i64 k, .int .i64 x, .int .i64 y, .int .i64 c, .int .i64 d] u v) → W.cell? ⟨w.heap.size + 1, 4, none⟩ = some (.int .i64 d) := fun W hW => by obtain ⟨_, _, hP⟩ := hW; exact hP.s.cell 4
  refine wp_drawn_on (fun W => ∃ u v, P3 w W (.int .i64 n) (.slice a m ca) #[.int .i64 k, .int .i64 x, .int .i64 y, .int .i64 c, .int .i64 d] u v) (by kernel_rfl) (⟨_, _, XP.out.on (Below.refl _ _).drew⟩) (fun hHeld => ?_)
  refine wpAnyH_take (i := 0) (oi := { dst := some 6, op := Go.Op.load 51 (Go.Operand.tmp 2), type := 51, pos := "post.go:73", after := #[], guard := none }) (v := ?v96) rfl (by kernel_rfl) (by kernel_rfl) (by kernel_rfl) (fun _ _ _ h => h) (Or.inl ⟨by kernel_rfl, ?h96⟩) (by assumption) ?r96
  case h96 => (intro w hSw; (try dsimp only at hSw); go_simp; try with_reducible rfl)
  try simp only [Act.put, List.setIfInBounds_toArray, List.set_cons_zero, List.set_cons_succ]
  refine wpAnyH_take (i := 1) (oi := { dst := some 7, op := Go.Op.load 73 (Go.Operand.tmp 3), type := 73, pos := "post.go:73", after := #[], guard := none }) (v := ?v97) rfl (by kernel_rfl) (by kernel_rfl) (by kernel_rfl) (fun _ _ _ h => h) (Or.inl ⟨by kernel_rfl, ?h97⟩) (by assumption) ?r97
  case h97 => (intro w hSw; (try dsimp only at hSw); go_simp; try with_reducible rfl)
  try simp only [Act.put, List.setIfInBounds_toArray, List.set_cons_zero, List.set_cons_succ]
  refine wpAnyH_ready (rs := [2]) (by kernel_rfl) (by simp) ?_
  refine AllReadyH.cons (o := { dst := some 8, op := Go.Op.call { callee := Go.Callee.value (Go.Operand.func 173), args := #[], argTypes := #[] }, type := 167, pos := "post.go:73", after := #[], guard := none }) rfl (fun K hK => ?_) AllReadyH.nil
  go_simp
  refine (faults_any _).mono ?_
  rintro e u2 ⟨rfl, b2⟩
  have Q2 := (XP.out.on (Below.refl _ _).drew).on b2
  have hx2 : ∃ u v, P3 w u2 (.int .i64 n) (.slice a m ca) #[.int .i64 k, .int .i64 x, .int .i64 y, .int .i64 c, .int .i64 d] u v := ⟨_, _, Q2⟩
  go_simp
  refine hK.out _ _ (hx2) (fun hHeld => ?_)
  clear hK K
  try simp only [Act.put, List.setIfInBounds_toArray, List.set_cons_zero, List.set_cons_succ]
  refine wpAnyH_ready (rs := [3]) (by kernel_rfl) (by simp) ?_
  refine AllReadyH.cons (o := { dst := some 9, op := Go.Op.call { callee := Go.Callee.value (Go.Operand.func 144), args := #[Go.Operand.tmp 6, Go.Operand.tmp 7, Go.Operand.tmp 8], argTypes := #[51, 73, 167] }, type := 126, pos := "post.go:73", after := #[{ on := 0, ground := Go.Ground.data }, { on := 1, ground := Go.Ground.data }, { on := 2, ground := Go.Ground.data }, { on := 2, ground := Go.Ground.chain }], guard := none }) rfl (fun K hK => ?_) AllReadyH.nil
  go_simp
  refine (hq'.out _ Q2.bl).mono ?_
  rintro e u6 ⟨a7, c7, rfl, hc7, s7, b7, nw7⟩
  have Q6 := Q2.on b7
  have hx6 : ∃ u v, P3 w u6 (.int .i64 n) (.slice a m ca) #[.int .i64 k, .int .i64 x, .int .i64 y, .int .i64 c, .int .i64 d] u v := ⟨_, _, Q6⟩
  have y0 := Q6.r.cell 0
  have y1 := Q6.r.cell 1
  have f0 := Q6.r.free 0
  have f1 := Q6.r.free 1
  go_simp
  refine hK.out _ _ (hx6) (fun hHeld => ?_)
  clear hK K
  try simp only [Act.put, List.setIfInBounds_toArray, List.set_cons_zero, List.set_cons_succ]
  refine wpAnyH_take (i := 4) (oi := { dst := some 10, op := Go.Op.extract (Go.Operand.tmp 9) 0, type := 51, pos := "post.go:73", after := #[{ on := 3, ground := Go.Ground.data }], guard := none }) (v := ?v98) rfl (by kernel_rfl) (by kernel_rfl) (by kernel_rfl) (fun _ _ _ h => h) (Or.inl ⟨by kernel_rfl, ?h98⟩) (by assumption) ?r98
  case h98 => (intro w hSw; (try dsimp only at hSw); go_simp; try with_reducible rfl)
  try simp only [Act.put, List.setIfInBounds_toArray, List.set_cons_zero, List.set_cons_succ]
  refine wpAnyH_take (i := 5) (oi := { dst := some 11, op := Go.Op.extract (Go.Operand.tmp 9) 1, type := 27, pos := "post.go:73", after := #[{ on := 3, ground := Go.Ground.data }], guard := none }) (v := ?v99) rfl (by kernel_rfl) (by kernel_rfl) (by kernel_rfl) (fun _ _ _ h => h) (Or.inl ⟨by kernel_rfl, ?h99⟩) (by assumption) ?r99
  case h99 => (intro w hSw; (try dsimp only at hSw); go_simp; try with_reducible rfl)
  try simp only [Act.put, List.setIfInBounds_toArray, List.set_cons_zero, List.set_cons_succ]
  refine wpAnyH_ready (rs := [6]) (by kernel_rfl) (by simp) ?_
  refine AllReadyH.cons (o := { dst := none, op := Go.Op.store 51 (Go.Operand.tmp 4) (Go.Operand.tmp 10), type := 0, pos := "post.go:73", after := #[{ on := 4, ground := Go.Ground.data }, { on := 3, ground := Go.Ground.chain }, { on := 0, ground := Go.Ground.phase }, { on := 1, ground := Go.Ground.phase }, { on := 2, ground := Go.Ground.phase }, { on := 3, ground := Go.Ground.phase }, { on := 4, ground := Go.Ground.phase }, { on := 5, ground := Go.Ground.phase }], guard := none }) rfl (fun K hK => ?_) AllReadyH.nil
  go_simp
  have hx9 : ∃ u v, P3 w ((u6.setCell ⟨w.heap.size + 2, 0, none⟩ (.int .i64 nr)).setCell ⟨w.heap.size + 2, 1, none⟩ (.slice a7 R.length c7)) (.int .i64 n) (.slice a m ca) #[.int .i64 k, .int .i64 x, .int .i64 y, .int .i64 c, .int .i64 d] u v := ⟨_, _, ⟨(Q6.bl.setCell (p := ⟨w.heap.size + 2, 0, none⟩) (by show w.heap.size ≤ w.heap.size + 2; omega) _).setCell (p := ⟨w.heap.size + 2, 1, none⟩) (by show w.heap.size ≤ w.heap.size + 2; omega) _, (Q6.z.far (p := ⟨w.heap.size + 2, 0, none⟩) (by simp) _).far (p := ⟨w.heap.size + 2, 1, none⟩) (by simp) _, (Q6.s.far (p := ⟨w.heap.size + 2, 0, none⟩) (by simp) _).far (p := ⟨w.heap.size + 2, 1, none⟩) (by simp) _, zh_set Q6.r _ _⟩⟩
  refine hK.out _ _ (hx9) (fun hHeld => ?_)
  clear hK K
  try simp only [Act.put, List.setIfInBounds_toArray, List.set_cons_zero, List.set_cons_succ]
  refine wpAnyH_take (i := 7) (oi := { dst := some 5, op := Go.Op.assign (Go.Operand.tmp 11), type := 27, pos := "post.go:73", after := #[{ on := 5, ground := Go.Ground.data }, { on := 6, ground := Go.Ground.chain }, { on := 0, ground := Go.Ground.phase }, { on := 1, ground := Go.Ground.phase }, { on := 2, ground := Go.Ground.phase }, { on := 3, ground := Go.Ground.phase }, { on := 4, ground := Go.Ground.phase }, { on := 5, ground := Go.Ground.phase }, { on := 6, ground := Go.Ground.phase }], guard := none }) (v := ?v100) rfl (by kernel_rfl) (by kernel_rfl) (by kernel_rfl) (fun _ _ _ h => h) (Or.inl ⟨by kernel_rfl, ?h100⟩) (by assumption) ?r100
  case h100 => (intro w hSw; (try dsimp only at hSw); go_simp; try with_reducible rfl)
  try simp only [Act.put, List.setIfInBounds_toArray, List.set_cons_zero, List.set_cons_succ]
  refine wpAnyH_done (by kernel_rfl) ?_ _
  have hfin := Lib.hid (zone_put (n := nr) (err := E) Q2.bl (by omega) Q2.r hc7 s7 b7 nw7)
  clear g0 g1 r0 r1 r2 r3 r4 y0 y1 f0 f1 hx6 hx9 hx2 hHeld Q6 Q2
  go_wp2
  exact zone_ret2 hfin.out.1 hfin.out.2.1 _ _ 4 5 rfl rfl rfl rfl
end Go.Proofs.YtimgocfkogebmaaGreatDoor
namespace Go.Proofs.YtimgocfkogebmaaGreatDoor
open Go.RowKit
set_option linter.unusedVariables false
set_option linter.unusedSimpArgs false
theorem postL_isz {n : Nat} {l : List Int} (hz : IsZ n l) (k x y c d : Int) : IsZ n (postL n l k x y c d) := by
  unfold postL
  split
  · exact hz
  · split
    · exact letL_isz hz.1 _ _ _ _
    · split <;> exact limitL_isz hz.1 _ _ _ _
theorem faultL_isz {n : Nat} {l : List Int} (hz : IsZ n l) (k x y c : Int) : IsZ n (faultL n l k x y c) := by
  unfold faultL
  split
  · exact limitL_isz hz.1 _ _ _ _
  · exact ⟨hz.1, .inl rfl⟩
structure P2 (w W : World) (zn zm : Value) (st : Array Value) : Prop where
  bl : Below w.heap.size w W
  z : ZH W w.heap.size zn zm
  s : Holds W (w.heap.size + 1) 73 st
theorem P2.on {w W W' : World} {zn zm : Value} {st : Array Value} (h : P2 w W zn zm st) (hb : Below W.heap.size W W') : P2 w W' zn zm st :=
  ⟨h.bl.trans (hb.mono h.bl.size), h.z.below hb h.z.lt, h.s.below hb h.s.lt⟩
theorem p2_new (w : World) (zn zm : Value) (st : Array Value) : P2 w ((w.alloc (.cells #[zn, zm] 51)).alloc (.cells st 73)) zn zm st := by
  refine ⟨(box_below _ _ _).alloc (by simp) _, (Holds.new w _ _).alloc _, ?_⟩
  have := Holds.new (w.alloc (.cells #[zn, zm] 51)) 73 st
  simpa using this
set_option maxRecDepth 100000 in
set_option maxHeartbeats 400000 in
theorem may_of (n : Nat) (k x y c d : Int) (R : List Int) (hR : IsZ n R) (a : Option Addr) (m ca : Nat) (w : World) (hq : ∀ W, Below w.heap.size w W → Calls Tryz.prog 134 #[.agg #[.int .i64 n, .slice a m ca], .agg #[.int .i64 k, .int .i64 x, .int .i64 y, .int .i64 c, .int .i64 d]] W (ZoneE n R 0 W)) : Calls Tryz.prog 84 #[.agg #[.int .i64 n, .slice a m ca], .agg #[.int .i64 k, .int .i64 x, .int .i64 y, .int .i64 c, .int .i64 d]] w (Gives (.bool (!decide (R = []))) w) := by
  obtain ⟨W1, hW1⟩ : ∃ W1, W1 = (w.alloc (.cells #[.int .i64 n, .slice a m ca] 51)).alloc (.cells #[.int .i64 k, .int .i64 x, .int .i64 y, .int .i64 c, .int .i64 d] 73) := ⟨_, rfl⟩
  have X1 : P2 w W1 (.int .i64 n) (.slice a m ca) #[.int .i64 k, .int .i64 x, .int .i64 y, .int .i64 c, .int .i64 d] := by rw [hW1]; exact p2_new _ _ _ _
  have hW1' := Lib.hid hW1
  have XP := Lib.hid X1
  have k0 := X1.z.cell 0
  have k1 := X1.z.cell 1
  have k2 := X1.s.cell 0
  have k3 := X1.s.cell 1
  have k4 := X1.s.cell 2
  have k5 := X1.s.cell 3
  have k6 := X1.s.cell 4
  have q := Lib.hid (hq W1 X1.bl)
  have hRl := hR.small
  have hem := Lib.hid (fun W aa cc (hs : SL W aa R.length cc R) => empty_any n aa R.length cc R W hs)
  rw [show emptyB n R = decide (R = []) by unfold emptyB; rw [hR.check, Bool.and_true]] at hem
  generalize decide (R = []) = eb at *
  clear hW1 X1 hR hq
  go_enter Tryz.func84, Tryz.ntmps84
  go_wp2_with fail
  rw [← hW1'.out]
  refine q.out.mono ?_
  rintro e u1 ⟨a7, c7, rfl, hc7, t7, b7, -⟩
  have b8 := box_below u1 #[.int .i64 n, .slice a7 R.length c7] 51
  have B := Lib.hid ((XP.out.on b7).bl.trans (b8.mono (XP.out.on b7).bl.size))
  have S7 := Lib.hid ((show SL u1 a7 R.length c7 R from ⟨rfl, hc7, by omega, t7⟩).below b8)
  clear q XP hW1' k0 k1 k2 k3 k4 k5 k6 b7 b8 t7 hRl
  go_wp2_with fail
  refine (hem.out _ _ _ S7.out).mono ?_
  rintro e u2 ⟨rfl, b2⟩
  have B2 := Lib.hid (B.out.trans (b2.mono B.out.size))
  clear b2 B S7 hem
  go_wp2
  go_ret
  exact ⟨rfl, B2.out⟩
set_option maxRecDepth 100000 in
set_option maxHeartbeats 400000 in
theorem must_of (n : Nat) (k x y c d : Int) (R : List Int) (hR : IsZ n R) (mb : Bool) (a : Option Addr) (m ca : Nat) (w : World) (hq : ∀ W, Below w.heap.size w W → Calls Tryz.prog 100 #[.agg #[.int .i64 n, .slice a m ca], .agg #[.int .i64 k, .int .i64 x, .int .i64 y, .int .i64 c, .int .i64 d]] W (ZoneE n R 0 W))
    (hm : ∀ W, Below w.heap.size w W → Calls Tryz.prog 84 #[.agg #[.int .i64 n, .slice a m ca], .agg #[.int .i64 k, .int .i64 x, .int .i64 y, .int .i64 c, .int .i64 d]] W (Gives (.bool mb) W)) : Calls Tryz.prog 88 #[.agg #[.int .i64 n, .slice a m ca], .agg #[.int .i64 k, .int .i64 x, .int .i64 y, .int .i64 c, .int .i64 d]] w (Gives (.bool (decide (R = []) && mb)) w) := by
  obtain ⟨W1, hW1⟩ : ∃ W1, W1 = (w.alloc (.cells #[.int .i64 n, .slice a m ca] 51)).alloc (.cells #[.int .i64 k, .int .i64 x, .int .i64 y, .int .i64 c, .int .i64 d] 73) := ⟨_, rfl⟩
  have X1 : P2 w W1 (.int .i64 n) (.slice a m ca) #[.int .i64 k, .int .i64 x, .int .i64 y, .int .i64 c, .int .i64 d] := by rw [hW1]; exact p2_new _ _ _ _
  have hW1' := Lib.hid hW1
  have XP := Lib.hid X1
  have k0 := X1.z.cell 0
  have k1 := X1.z.cell 1
  have k2 := X1.s.cell 0
  have k3 := X1.s.cell 1
  have k4 := X1.s.cell 2
  have k5 := X1.s.cell 3
  have k6 := X1.s.cell 4
  have q := Lib.hid (hq W1 X1.bl)
  have hm' := Lib.hid hm
  have hRl := hR.small
  have hem := Lib.hid (fun W aa cc (hs : SL W aa R.length cc R) => empty_any n aa R.length cc R W hs)
  rw [show emptyB n R = decide (R = []) by unfold emptyB; rw [hR.check, Bool.and_true]] at hem
  generalize decide (R = []) = eb at *
  clear hW1 X1 hR hq hm
  cases eb
  all_goals
    go_enter Tryz.func88, Tryz.ntmps88
    go_wp2_with fail
    rw [← hW1'.out]
    refine q.out.mono ?_
    rintro e u1 ⟨a7, c7, rfl, hc7, t7, b7, -⟩
    have b8 := box_below u1 #[.int .i64 n, .slice a7 R.length c7] 51
    have XB := Lib.hid ((XP.out.on b7).on b8)
    have S7 := Lib.hid ((show SL u1 a7 R.length c7 R from ⟨rfl, hc7, by omega, t7⟩).below b8)
    clear q XP hW1' k0 k1 k2 k3 k4 k5 k6 b7 b8 t7 hRl
    go_wp2_with fail
    refine (hem.out _ _ _ S7.out).mono ?_
    rintro e u2 ⟨rfl, b2⟩
    have X2 := Lib.hid (XB.out.on b2)
    clear b2 XB S7 hem
    have k0 := X2.out.z.cell 0
    have k1 := X2.out.z.cell 1
    have k2 := X2.out.s.cell 0
    have k3 := X2.out.s.cell 1
    have k4 := X2.out.s.cell 2
    have k5 := X2.out.s.cell 3
    have k6 := X2.out.s.cell 4
  · go_wp2
    go_ret
    exact ⟨rfl, X2.out.bl⟩
  · go_wp2_with fail
    refine (hm'.out _ X2.out.bl).mono ?_
    rintro e u3 ⟨rfl, b3⟩
    have B3 := Lib.hid (X2.out.on b3).bl
    clear b3 X2 k0 k1 k2 k3 k4 k5 k6
    go_wp2
    go_ret
    exact ⟨ret_bool (by simp), B3.out⟩
end Go.Proofs.YtimgocfkogebmaaGreatDoor
namespace Go.Proofs.YtimgocfkogebmaaGreatDoor
open Go.Lib
set_option linter.unusedVariables false
def clip (n : Int) : Int := if 1099511627776 < n then 1099511627776 else if n < -1099511627776 then -1099511627776 else n
theorem clip_in (n : Int) : -1099511627776 ≤ clip n ∧ clip n ≤ 1099511627776 := by unfold clip; split <;> (try split) <;> omega
def infT : List UInt8 := [105, 110, 102]
def ninfT : List UInt8 := [45, 105, 110, 102]
def showV (v : Int) : List UInt8 := if v = 1099511627776 then infT else if v = -1099511627776 then ninfT else itoa v
def isDig (c : UInt8) : Prop := 48 ≤ c.toNat ∧ c.toNat ≤ 57
instance (c : UInt8) : Decidable (isDig c) := by unfold isDig; infer_instance
def val10 (l : List UInt8) : Nat := l.foldl (fun a c => 10 * a + (c.toNat - 48)) 0
theorem val10_snoc (l : List UInt8) (c : UInt8) : val10 (l ++ [c]) = 10 * val10 l + (c.toNat - 48) := by simp [val10]
theorem val10_app_le (l r : List UInt8) : val10 l ≤ val10 (l ++ r) := by
  induction r generalizing l with
  | nil => simp
  | cons c r ih =>
    have h1 := ih (l ++ [c])
    rw [val10_snoc] at h1
    rw [show l ++ c :: r = l ++ [c] ++ r by simp]
    omega
def canon (l : List UInt8) : Prop := l ≠ [] ∧ (∀ c ∈ l, isDig c) ∧ (l.head? = some 48 → l = [48])
instance (l : List UInt8) : Decidable (canon l) := by unfold canon; infer_instance
theorem dig_back {c : UInt8} (h : isDig c) : UInt8.ofNat (48 + (c.toNat - 48)) = c := by
  rw [show 48 + (c.toNat - 48) = c.toNat by have := h.1; omega]
  exact UInt8.ofNat_toNat
theorem dig_of {d : Nat} (h : d < 10) : isDig (UInt8.ofNat (48 + d)) ∧ (UInt8.ofNat (48 + d)).toNat - 48 = d := by
  have e : (UInt8.ofNat (48 + d)).toNat = 48 + d := by
    rw [UInt8.toNat_ofNat']; omega
  unfold isDig
  rw [e]; omega
theorem val10_pos {l : List UInt8} (h0 : l ≠ []) (hd : ∀ c ∈ l, isDig c) (hh : l.head? ≠ some 48) : 0 < val10 l := by
  cases l with
  | nil => exact absurd rfl h0
  | cons c r =>
    have h1 := val10_app_le [c] r
    have hc := hd c (by simp)
    have : c.toNat ≠ 48 := by
      intro e
      apply hh
      simp only [List.head?_cons, Option.some.injEq]
      apply UInt8.toNat_inj.1
      rw [e]; rfl
    have e2 : val10 [c] = c.toNat - 48 := by simp [val10]
    have := hc.1
    rw [show c :: r = [c] ++ r by rfl]
    omega
theorem canon_show {l : List UInt8} (h : canon l) : decDigits (val10 l) = l := by
  suffices H : ∀ (n : Nat) (l : List UInt8), l.length = n → canon l → decDigits (val10 l) = l from H _ l rfl h
  intro n
  induction n with
  | zero => intro l hl hc; exact absurd (List.eq_nil_of_length_eq_zero hl) hc.1
  | succ n ih =>
    intro l hl hc
    obtain ⟨p, c, rfl⟩ : ∃ p c, l = p ++ [c] := ⟨l.dropLast, l.getLast hc.1, (List.dropLast_concat_getLast hc.1).symm⟩
    have hp : p.length = n := by simp at hl; omega
    have hcd : isDig c := hc.2.1 c (by simp)
    have hlt : c.toNat - 48 < 10 := by have := hcd.1; have := hcd.2; omega
    rw [val10_snoc]
    by_cases hpe : p = []
    · subst hpe
      rw [show val10 [] = 0 from rfl, Nat.mul_zero, Nat.zero_add, decDigits, dif_pos hlt, dig_back hcd]
      rfl
    · have hph : p.head? ≠ some 48 := by
        intro e
        have h2 := hc.2.2 (by rw [List.head?_append, e]; rfl)
        have h3 := congrArg List.length h2
        simp at h3
        exact hpe h3
      have hpd : ∀ x ∈ p, isDig x := fun x hx => hc.2.1 x (by simp [hx])
      have hpos := val10_pos hpe hpd hph
      rw [decDigits, dif_neg (by omega), show (10 * val10 p + (c.toNat - 48)) / 10 = val10 p by omega, show (10 * val10 p + (c.toNat - 48)) % 10 = c.toNat - 48 by omega, dig_back hcd]
      rw [ih p hp ⟨hpe, hpd, fun e => absurd e hph⟩]
theorem show_val (u : Nat) : val10 (decDigits u) = u ∧ canon (decDigits u) ∧ (0 < u → (decDigits u).head? ≠ some 48) := by
  induction u using Nat.strongRecOn with
  | ind u ih =>
    by_cases h : u < 10
    · rw [decDigits, dif_pos h]
      have := dig_of h
      refine ⟨by simpa [val10] using this.2, ⟨by simp, by simpa using this.1, ?_⟩, ?_⟩
      · intro e; simp at e; simp [e]
      · intro h0 e
        simp only [List.head?_cons, Option.some.injEq] at e
        rw [e] at this
        simp at this
        omega
    · obtain ⟨h1, h2, h3⟩ := ih (u / 10) (by omega)
      have hd := dig_of (d := u % 10) (by omega)
      rw [decDigits, dif_neg h]
      have hh : (decDigits (u / 10) ++ [UInt8.ofNat (48 + u % 10)]).head? ≠ some 48 := by
        intro e
        rw [List.head?_append] at e
        have h4 := h3 (by omega)
        cases hx : (decDigits (u / 10)).head? with
        | none => rw [List.head?_eq_none_iff] at hx; exact h2.1 hx
        | some x => rw [hx] at e h4; simp at e; exact h4 (by rw [e])
      refine ⟨by rw [val10_snoc, h1, hd.2]; omega, ⟨by simp, ?_, fun e => absurd e hh⟩, fun _ => hh⟩
      intro c hc
      rcases List.mem_append.1 hc with hc | hc
      · exact h2.2.1 c hc
      · rw [List.mem_singleton] at hc; subst hc; exact hd.1
theorem canon_len {l : List UInt8} (h : canon l) (hl : val10 l < 1099511627776) : l.length ≤ 13 := by
  have h1 : l = decDigits (val10 l) := (canon_show h).symm
  rw [h1, decDigits_length]
  have : ∀ k u, u < 10 ^ (k + 1) → nDigits u ≤ k + 1 := by
    intro k
    induction k with
    | zero => intro u hu; rw [nDigits_small (by omega)]; omega
    | succ k ih =>
      intro u hu
      by_cases h10 : u < 10
      · rw [nDigits_small h10]; omega
      · have := ih (u / 10) (by rw [Nat.pow_succ] at hu; omega)
        rw [nDigits, dif_neg h10]; omega
  have := this 12 (val10 l) (by omega)
  omega
end Go.Proofs.YtimgocfkogebmaaGreatDoor
namespace Go.Proofs.YtimgocfkogebmaaGreatDoor
open Go.RowKit
set_option linter.unusedVariables false
theorem clip_any (n : Int) (w : World) : Calls Tryz.prog 154 #[.int .i64 n] w fun e w' => e = .returned (.int .i64 (clip n)) ∧ w = w' := by
  have hf : Hid (clip n = if 1099511627776 < n then 1099511627776 else if n < -1099511627776 then -1099511627776 else n) := Lib.hid rfl
  generalize clip n = F at *
  go_enter Tryz.func154, Tryz.ntmps154
  go_wp2
  all_goals (go_ret; refine ⟨ret_int ?_, rfl⟩; rw [hf.out]; clear hf; grind)
end Go.Proofs.YtimgocfkogebmaaGreatDoor
namespace Go.Proofs.YtimgocfkogebmaaGreatDoor
open Go.RowKit
set_option linter.unusedVariables false
def Tab (w : World) : Prop := Lib.TabIs Tryz.prog w "internal/strconv.uint64pow10" .u64 Lib.pow10Tab
theorem globalTab : (Tryz.prog.globalNamed "internal/strconv.uint64pow10").isSome = true := by kernel_rfl
theorem Tab.on {w w' : World} (h : Tab w) (hb : Below w.heap.size w w') : Tab w' := by
  obtain ⟨g, hg⟩ := Option.isSome_iff_exists.1 globalTab
  exact Joins.tab_stays hg h hb (Nat.le_refl _)
theorem below_drewn (w : World) (q : Nat) (os : Array Obj) : Below w.heap.size w (Sort.grow (w.drewN q) os) :=
  ⟨rfl, rfl, rfl, by simp [Sort.grow], fun i hi => by
    show ((w.drewN q).heap ++ os)[i]? = _
    rw [Array.getElem?_append_left (by show i < w.heap.size; omega)]
    rfl⟩
end Go.Proofs.YtimgocfkogebmaaGreatDoor
namespace Go.Proofs.YtimgocfkogebmaaGreatDoor
open Go.RowKit
set_option linter.unusedVariables false
def strB (l : List UInt8) : ByteArray := ⟨l.toArray⟩
theorem itoa_any (n : Int) (h0 : -9223372036854775808 ≤ n) (h1 : n ≤ 9223372036854775807) (w : World) (ht : Tab w) : Calls Tryz.prog 207 #[.int .i64 n] w (Gives (.string (strB (Lib.itoa n))) w) := by
  refine (Tryz.strconv_Itoa n h0 h1 w ht).mono ?_
  rintro e w' ⟨rfl, k, os, rfl⟩
  exact ⟨rfl, below_drewn w k os⟩
theorem show_max {v : Int} (h : v = 1099511627776) : showV v = infT := by subst h; decide
theorem show_min {v : Int} (h : v = -1099511627776) : showV v = ninfT := by subst h; decide
theorem show_mid {v : Int} (h : ¬ v = 1099511627776) (h2 : ¬ v = -1099511627776) : showV v = Lib.itoa v := by unfold showV; rw [if_neg h, if_neg h2]
theorem show_any (n : Int) (w : World) (ht : Tab w) : Calls Tryz.prog 202 #[.int .i64 n] w (Gives (.string (strB (showV (clip n)))) w) := by
  have hc := Lib.hid (clip_any n)
  have hi := clip_in n
  generalize clip n = v at *
  have hit := Lib.hid (fun w ht => itoa_any v (by omega) (by omega) w ht)
  by_cases h1 : v = 1099511627776
  · rw [show_max h1]
    go_enter Tryz.func202, Tryz.ntmps202
    go_wp2_with fail
    refine (hc.out _).mono ?_
    rintro e w' ⟨rfl, rfl⟩
    go_wp2
    go_ret
    exact ⟨rfl, Below.refl _ _⟩
  · have d1 : (v == 1099511627776) = false := by simp [h1]
    by_cases h2 : v = -1099511627776
    · rw [show_min h2]
      go_enter Tryz.func202, Tryz.ntmps202
      go_wp2_with fail
      refine (hc.out _).mono ?_
      rintro e w' ⟨rfl, rfl⟩
      go_wp2
      go_ret
      exact ⟨rfl, Below.refl _ _⟩
    · have d2 : (v == -1099511627776) = false := by simp [h2]
      rw [show_mid h1 h2]
      generalize Lib.itoa v = T at *
      go_enter Tryz.func202, Tryz.ntmps202
      go_wp2_with fail
      refine (hc.out _).mono ?_
      rintro e w' ⟨rfl, rfl⟩
      go_wp2_with fail
      refine (hit.out _ ht).mono ?_
      rintro e w' ⟨rfl, hb⟩
      go_wp2
      go_ret
      exact ⟨rfl, hb⟩
theorem strB_size (l : List UInt8) : (strB l).size = l.length := by simp [strB, ByteArray.size]
end Go.Proofs.YtimgocfkogebmaaGreatDoor
