/-
  Words and walks under the law's proof.
-/
import Derived.Test.YtgeliikfgnkppaaGreatDoorQR04
import Derived.Test.YtgeliikfgnkppaaGreatDoorQR05
import Derived.Test.YtgeliikfgnkppaaGreatDoorQR06
namespace Go.Proofs.YtgeliikfgnkppaaGreatDoor
open Go.RowKit
set_option linter.unusedVariables false
set_option linter.unusedSimpArgs false
structure LR (A : PD) (w : World) (pnm : ByteArray) (pa1 : Option Addr) (pn1 pc1 : Nat) (pa2 : Option Addr) (pn2 pc2 : Nat) (pa3 : Option Addr) (pn3 pc3 : Nat) (W : World) : Prop where
  p1 : PrA W ⟨pnm, pa1, pn1, pc1, pa2, pn2, pc2, pa3, pn3, pc3⟩ A
  b1 : Holds W w.heap.size 26 #[.string pnm, .slice pa1 pn1 pc1, .slice pa2 pn2 pc2, .slice pa3 pn3 pc3]
  bel : Below w.heap.size w W
  tab : Tab W
theorem LR.below {A : PD} {w : World} {pnm : ByteArray} {pa1 : Option Addr} {pn1 pc1 : Nat} {pa2 : Option Addr} {pn2 pc2 : Nat} {pa3 : Option Addr} {pn3 pc3 : Nat} {W W' : World} (h : LR A w pnm pa1 pn1 pc1 pa2 pn2 pc2 pa3 pn3 pc3 W) (hb : Below W.heap.size W W') : LR A w pnm pa1 pn1 pc1 pa2 pn2 pc2 pa3 pn3 pc3 W' :=
  ⟨h.p1.below hb, h.b1.below hb h.b1.lt, h.bel.trans (hb.mono h.bel.size), h.tab.on hb⟩
def inL (n : Nat) (l : List Nat) (i : Nat) : List Bool := (List.range n).map fun v => (l.take i).contains v
theorem inL_len (n : Nat) (l : List Nat) (i : Nat) : (inL n l i).length = n := by simp [inL]
theorem inL_at {n : Nat} {l : List Nat} {i v : Nat} (hv : v < n) : (inL n l i).getD v false = (l.take i).contains v := by simp [inL, List.getD, hv]
theorem inL_zero (n : Nat) (l : List Nat) : List.replicate n false = inL n l 0 := by
  apply List.ext_getElem
  · simp [inL]
  · intro i h1 h2
    simp [inL]
theorem inL_step {n : Nat} {l : List Nat} {i : Nat} (hi : i < l.length) : (inL n l i).set (l.getD i 0) true = inL n l (i + 1) := by
  have e : l.take (i + 1) = l.take i ++ [l.getD i 0] := by rw [List.take_succ_eq_append_getElem hi]; simp [List.getD, hi]
  apply List.ext_getElem
  · simp [inL]
  · intro v h1 h2
    rw [List.getElem_set]
    simp only [inL, List.getElem_map, List.getElem_range, e]
    generalize l.getD i 0 = r
    split
    · next h => subst h; simp
    · next h =>
      rw [Bool.eq_iff_iff]
      simp
      intro h3
      exact absurd h3.symm h
theorem BolI.made {u : World} {g : Nat} {l : List Bool} {w w' : World} (h : BolI u g l w) (hb : Below w.heap.size w w') : BolI u g l w' :=
  ⟨h.low, h.bel.trans (hb.mono h.bel.size), own_below h.row hb⟩
theorem BolI.lt {u : World} {g : Nat} {l : List Bool} {w : World} (h : BolI u g l w) : g < w.heap.size := (h.row.lt g rfl).2
theorem sel_at {q : EdgeD → Bool} {l : List EdgeD} {m i : Nat} (hi : i < (selL q l m).length) : ∃ e : Nat, (selL q l m).getD i 0 = (e : Int) ∧ e < m ∧ q (l.getD e edge0) = true := by
  have h1 : (selL q l m).getD i 0 ∈ selL q l m := by simp only [List.getD, List.getElem?_eq_getElem hi, Option.getD_some]; exact List.getElem_mem _
  generalize (selL q l m).getD i 0 = x at h1
  unfold selL at h1
  obtain ⟨e, he, rfl⟩ := List.mem_map.1 h1
  rw [List.mem_filter, List.mem_range] at he
  exact ⟨e, rfl, he.1, he.2⟩
theorem reach_head {D : PD} (h : progB D = true) : 0 < (reachN D).length ∧ (reachN D).getD 0 0 = 0 := by
  have h0 := (prog_sizes h).1
  have hm : (passes (pairsE D) D.spots.length (startB D.spots.length)).getD 0 false = true := (passes_all h0 (fun e he => (pairs_lt h e he).2) 0).2 .start
  obtain ⟨n, hn⟩ : ∃ n, D.spots.length = n + 1 := ⟨D.spots.length - 1, by omega⟩
  unfold reachN
  rw [hn] at hm ⊢
  rw [List.range_succ_eq_map]
  have key : ∀ (p : Nat → Bool) (t : List Nat), p 0 = true → 0 < (List.filter p (0 :: t)).length ∧ (List.filter p (0 :: t)).getD 0 0 = 0 := fun p t hp => by rw [List.filter_cons_of_pos hp]; simp
  exact key _ _ hm
theorem reach_lt {D : PD} {i : Nat} (hi : i < (reachN D).length) : (reachN D).getD i 0 < D.spots.length := by
  have h1 : (reachN D).getD i 0 ∈ reachN D := by simp only [List.getD, List.getElem?_eq_getElem hi, Option.getD_some]; exact List.getElem_mem _
  generalize (reachN D).getD i 0 = x at h1
  unfold reachN at h1
  rw [List.mem_filter, List.mem_range] at h1
  exact h1.1
theorem reach_next {D : PD} (h : progB D = true) {e k s : Nat} (he : e < D.edges.length) (hf : (D.edges.getD e edge0).frm = (k : Int)) (hd : (D.edges.getD e edge0).dst = (s : Int)) (hk : (reachN D).contains k = true) : (reachN D).contains s = true := by
  have hm := pairs_at D he
  rw [hf, hd] at hm
  simp only [Int.toNat_natCast] at hm
  rw [List.contains_iff_mem] at hk ⊢
  rw [mem_reach h] at hk ⊢
  exact hk.step (List.mem_of_getElem? hm)
theorem into_len {D : PD} (h : progB D = true) (k : Nat) : intoSum (pairsE D) (k + 1) = intoSum (pairsE D) k + (selL (intoQ (k : Int)) D.edges D.edges.length).length := by
  show _ + (askedL (pairsE D) (fun e => e.2 == k) (pairsE D).length).length = _
  congr 1
  unfold askedL selL
  rw [List.length_map, pairs_len]
  congr 1
  apply List.filter_congr
  intro i hi
  have hi := List.mem_range.1 hi
  have e1 : (pairsE D).getD i (0, 0) = ((D.edges.getD i edge0).frm.toNat, (D.edges.getD i edge0).dst.toNat) := by
    have := pairs_at D hi
    simp only [List.getD, this, Option.getD_some]
  have h0 := (edge_ends (prog_edge h hi)).2.2.1
  rw [e1]
  unfold intoQ
  generalize D.edges.getD i edge0 = E at *
  rw [Bool.eq_iff_iff]
  simp
  omega
theorem seesE_new {X : List Nat} {k : IntKind} {B : Nat} {w : World} {a : Option Addr} {l : List Int} (h : Sees k B w a l) (hf : ∀ b off s, a = some ⟨b, off, s⟩ → b ∉ X) : SeesE X k B w a l := by
  rcases h with h | ⟨b, off, h1, h2, h3⟩
  · exact .inl h
  · exact .inr ⟨b, off, h1, h2, hf b off none h1, h3⟩
set_option maxRecDepth 100000 in
set_option maxHeartbeats 8000000 in
theorem preaches_big (pnm : ByteArray) (pa1 : Option Addr) (pn1 pc1 : Nat) (pa2 : Option Addr) (pn2 pc2 : Nat) (pa3 : Option Addr) (pn3 pc3 : Nat) (A : PD) (hA : PW A) (w : World) (ht : Tab w) (h1 : PrA w ⟨pnm, pa1, pn1, pc1, pa2, pn2, pc2, pa3, pn3, pc3⟩ A) (HL : ∀ W, Tab W → Calls Tryz.prog 8 #[] W (Gives (.bool true) W)) (hg : bigP A = true) :
    Calls Tryz.prog 6 #[.agg #[.string pnm, .slice pa1 pn1 pc1, .slice pa2 pn2 pc2, .slice pa3 pn3 pc3]] w (Gives (.bool true) w) := by
  obtain ⟨X0, hX0⟩ : ∃ X0, X0 = w.alloc (.cells #[.string pnm, .slice pa1 pn1 pc1, .slice pa2 pn2 pc2, .slice pa3 pn3 pc3] 26) := ⟨_, rfl⟩
  have b0 : Below w.heap.size w X0 := by rw [hX0]; exact box_below _ _ _
  have L0 : LR A w pnm pa1 pn1 pc1 pa2 pn2 pc2 pa3 pn3 pc3 X0 := ⟨h1.below b0, by rw [hX0]; exact Holds.new w _ _, b0, ht.on b0⟩
  have L := Lib.hid L0
  have hX0' := Lib.hid hX0
  have QL := Lib.hid HL
  have qA := Lib.hid (fun W (h : LR A w pnm pa1 pn1 pc1 pa2 pn2 pc2 pa3 pn3 pc3 W) => plarge_any ⟨pnm, pa1, pn1, pc1, pa2, pn2, pc2, pa3, pn3, pc3⟩ A hA W h.p1)
  have qk := Lib.hid (fun W (h : LR A w pnm pa1 pn1 pc1 pa2 pn2 pc2 pa3 pn3 pc3 W) => rcheckP_any ⟨pnm, pa1, pn1, pc1, pa2, pn2, pc2, pa3, pn3, pc3⟩ A hA W h.p1)
  have qo := Lib.hid (fun W (x : Int) (h : LR A w pnm pa1 pn1 pc1 pa2 pn2 pc2 pa3 pn3 pc3 W) => pOut_any ⟨pnm, pa1, pn1, pc1, pa2, pn2, pc2, pa3, pn3, pc3⟩ A x W h.p1)
  have qi := Lib.hid (fun W (x : Int) (h : LR A w pnm pa1 pn1 pc1 pa2 pn2 pc2 pa3 pn3 pc3 W) => pInto_any ⟨pnm, pa1, pn1, pc1, pa2, pn2, pc2, pa3, pn3, pc3⟩ A x W h.p1)
  have qh := Lib.hid (fun W (h : LR A w pnm pa1 pn1 pc1 pa2 pn2 pc2 pa3 pn3 pc3 W) => preach_new ⟨pnm, pa1, pn1, pc1, pa2, pn2, pc2, pa3, pn3, pc3⟩ A W h.p1)
  clear hX0 b0 L0 h1 ht HL
  rw [hg] at qA
  go_enter Tryz.func6, Tryz.ntmps6
  go_wp2_with fail
  rw [← hX0'.out]
  with_reducible refine (qA.out _ L.out).mono ?_
  rintro e X1 ⟨rfl, bX1⟩
  replace L := Lib.hid (L.out.below bX1)
  clear bX1
  have z0 := L.out.b1.cell 0
  have z1 := L.out.b1.cell 1
  have z2 := L.out.b1.cell 2
  have z3 := L.out.b1.cell 3
  simp at z0 z1 z2 z3
  go_wp2_with fail
  with_reducible refine (QL.out _ L.out.tab).mono ?_
  rintro e X2 ⟨rfl, bX2⟩
  replace L := Lib.hid (L.out.below bX2)
  clear z0 z1 z2 z3
  go_wp2
  go_ret
  exact ⟨rfl, L.out.bel⟩
set_option maxRecDepth 100000 in
set_option maxHeartbeats 8000000 in
theorem preaches_no (pnm : ByteArray) (pa1 : Option Addr) (pn1 pc1 : Nat) (pa2 : Option Addr) (pn2 pc2 : Nat) (pa3 : Option Addr) (pn3 pc3 : Nat) (A : PD) (hA : PW A) (w : World) (ht : Tab w) (h1 : PrA w ⟨pnm, pa1, pn1, pc1, pa2, pn2, pc2, pa3, pn3, pc3⟩ A) (HL : ∀ W, Tab W → Calls Tryz.prog 8 #[] W (Gives (.bool true) W)) (hg : bigP A = false) (hp : progB A = false) :
    Calls Tryz.prog 6 #[.agg #[.string pnm, .slice pa1 pn1 pc1, .slice pa2 pn2 pc2, .slice pa3 pn3 pc3]] w (Gives (.bool true) w) := by
  obtain ⟨X0, hX0⟩ : ∃ X0, X0 = w.alloc (.cells #[.string pnm, .slice pa1 pn1 pc1, .slice pa2 pn2 pc2, .slice pa3 pn3 pc3] 26) := ⟨_, rfl⟩
  have b0 : Below w.heap.size w X0 := by rw [hX0]; exact box_below _ _ _
  have L0 : LR A w pnm pa1 pn1 pc1 pa2 pn2 pc2 pa3 pn3 pc3 X0 := ⟨h1.below b0, by rw [hX0]; exact Holds.new w _ _, b0, ht.on b0⟩
  have L := Lib.hid L0
  have hX0' := Lib.hid hX0
  have QL := Lib.hid HL
  have qA := Lib.hid (fun W (h : LR A w pnm pa1 pn1 pc1 pa2 pn2 pc2 pa3 pn3 pc3 W) => plarge_any ⟨pnm, pa1, pn1, pc1, pa2, pn2, pc2, pa3, pn3, pc3⟩ A hA W h.p1)
  have qk := Lib.hid (fun W (h : LR A w pnm pa1 pn1 pc1 pa2 pn2 pc2 pa3 pn3 pc3 W) => rcheckP_any ⟨pnm, pa1, pn1, pc1, pa2, pn2, pc2, pa3, pn3, pc3⟩ A hA W h.p1)
  have qo := Lib.hid (fun W (x : Int) (h : LR A w pnm pa1 pn1 pc1 pa2 pn2 pc2 pa3 pn3 pc3 W) => pOut_any ⟨pnm, pa1, pn1, pc1, pa2, pn2, pc2, pa3, pn3, pc3⟩ A x W h.p1)
  have qi := Lib.hid (fun W (x : Int) (h : LR A w pnm pa1 pn1 pc1 pa2 pn2 pc2 pa3 pn3 pc3 W) => pInto_any ⟨pnm, pa1, pn1, pc1, pa2, pn2, pc2, pa3, pn3, pc3⟩ A x W h.p1)
  have qh := Lib.hid (fun W (h : LR A w pnm pa1 pn1 pc1 pa2 pn2 pc2 pa3 pn3 pc3 W) => preach_new ⟨pnm, pa1, pn1, pc1, pa2, pn2, pc2, pa3, pn3, pc3⟩ A W h.p1)
  clear hX0 b0 L0 h1 ht HL
  rw [hg] at qA
  rw [hp] at qk
  go_enter Tryz.func6, Tryz.ntmps6
  go_wp2_with fail
  rw [← hX0'.out]
  with_reducible refine (qA.out _ L.out).mono ?_
  rintro e X1 ⟨rfl, bX1⟩
  replace L := Lib.hid (L.out.below bX1)
  clear bX1
  have z0 := L.out.b1.cell 0
  have z1 := L.out.b1.cell 1
  have z2 := L.out.b1.cell 2
  have z3 := L.out.b1.cell 3
  simp at z0 z1 z2 z3
  go_wp2_with fail
  with_reducible refine (qk.out _ L.out).mono ?_
  rintro e X2 ⟨rfl, bX2⟩
  replace L := Lib.hid (L.out.below bX2)
  clear z0 z1 z2 z3
  clear bX2
  have z0 := L.out.b1.cell 0
  have z1 := L.out.b1.cell 1
  have z2 := L.out.b1.cell 2
  have z3 := L.out.b1.cell 3
  simp at z0 z1 z2 z3
  go_wp2_with fail
  with_reducible refine (QL.out _ L.out.tab).mono ?_
  rintro e X3 ⟨rfl, bX3⟩
  replace L := Lib.hid (L.out.below bX3)
  clear z0 z1 z2 z3
  go_wp2
  go_ret
  exact ⟨rfl, L.out.bel⟩
set_option maxRecDepth 100000 in
set_option maxHeartbeats 8000000 in
theorem preaches_ok (pnm : ByteArray) (pa1 : Option Addr) (pn1 pc1 : Nat) (pa2 : Option Addr) (pn2 pc2 : Nat) (pa3 : Option Addr) (pn3 pc3 : Nat) (A : PD) (hA : PW A) (w : World) (ht : Tab w) (h1 : PrA w ⟨pnm, pa1, pn1, pc1, pa2, pn2, pc2, pa3, pn3, pc3⟩ A) (HL : ∀ W, Tab W → Calls Tryz.prog 8 #[] W (Gives (.bool true) W)) (hg : bigP A = false) (hp : progB A = true) :
    Calls Tryz.prog 6 #[.agg #[.string pnm, .slice pa1 pn1 pc1, .slice pa2 pn2 pc2, .slice pa3 pn3 pc3]] w (Gives (.bool true) w) := by
  obtain ⟨X0, hX0⟩ : ∃ X0, X0 = w.alloc (.cells #[.string pnm, .slice pa1 pn1 pc1, .slice pa2 pn2 pc2, .slice pa3 pn3 pc3] 26) := ⟨_, rfl⟩
  have b0 : Below w.heap.size w X0 := by rw [hX0]; exact box_below _ _ _
  have L0 : LR A w pnm pa1 pn1 pc1 pa2 pn2 pc2 pa3 pn3 pc3 X0 := ⟨h1.below b0, by rw [hX0]; exact Holds.new w _ _, b0, ht.on b0⟩
  have L := Lib.hid L0
  have hX0' := Lib.hid hX0
  have QL := Lib.hid HL
  have qA := Lib.hid (fun W (h : LR A w pnm pa1 pn1 pc1 pa2 pn2 pc2 pa3 pn3 pc3 W) => plarge_any ⟨pnm, pa1, pn1, pc1, pa2, pn2, pc2, pa3, pn3, pc3⟩ A hA W h.p1)
  have qk := Lib.hid (fun W (h : LR A w pnm pa1 pn1 pc1 pa2 pn2 pc2 pa3 pn3 pc3 W) => rcheckP_any ⟨pnm, pa1, pn1, pc1, pa2, pn2, pc2, pa3, pn3, pc3⟩ A hA W h.p1)
  have qo := Lib.hid (fun W (x : Int) (h : LR A w pnm pa1 pn1 pc1 pa2 pn2 pc2 pa3 pn3 pc3 W) => pOut_any ⟨pnm, pa1, pn1, pc1, pa2, pn2, pc2, pa3, pn3, pc3⟩ A x W h.p1)
  have qi := Lib.hid (fun W (x : Int) (h : LR A w pnm pa1 pn1 pc1 pa2 pn2 pc2 pa3 pn3 pc3 W) => pInto_any ⟨pnm, pa1, pn1, pc1, pa2, pn2, pc2, pa3, pn3, pc3⟩ A x W h.p1)
  have qh := Lib.hid (fun W (h : LR A w pnm pa1 pn1 pc1 pa2 pn2 pc2 pa3 pn3 pc3 W) => preach_new ⟨pnm, pa1, pn1, pc1, pa2, pn2, pc2, pa3, pn3, pc3⟩ A W h.p1)
  clear hX0 b0 L0 h1 ht HL
  rw [hg] at qA
  rw [hp] at qk
  have hls := Lib.hid L.out.p1.spots.len
  have hle := Lib.hid L.out.p1.edges.len
  dsimp only at hls hle
  have hsz := prog_sizes hp
  have hn1 : 1 ≤ pn2 := by rw [hls.out]; omega
  have hn2 : pn2 ≤ 128 := by rw [hls.out]; omega
  have hn3 : pn3 ≤ 256 := by rw [hle.out]; omega
  clear hsz
  have qo' : Hid (∀ W (x : Int), LR A w pnm pa1 pn1 pc1 pa2 pn2 pc2 pa3 pn3 pc3 W → Calls Tryz.prog 13 #[.agg #[.string pnm, .slice pa1 pn1 pc1, .slice pa2 pn2 pc2, .slice pa3 pn3 pc3], .int .i64 x] W (SlP (selL (outQ x) A.edges A.edges.length) W)) := Lib.hid (fun W x h => by have q := qo.out W x h; rw [selP_ok hp] at q; exact q)
  have qi' : Hid (∀ W (x : Int), LR A w pnm pa1 pn1 pc1 pa2 pn2 pc2 pa3 pn3 pc3 W → Calls Tryz.prog 14 #[.agg #[.string pnm, .slice pa1 pn1 pc1, .slice pa2 pn2 pc2, .slice pa3 pn3 pc3], .int .i64 x] W (SlP (selL (intoQ x) A.edges A.edges.length) W)) := Lib.hid (fun W x h => by have q := qi.out W x h; rw [selP_ok hp] at q; exact q)
  rw [reachP_ok hp] at qh
  clear qo qi
  have hP := Lib.hid hp
  clear hp
  have hR0 := Lib.hid (reach_head hP.out)
  have hRl' : Hid ((intsP (reachN A)).length = (reachN A).length) := Lib.hid (intsP_len _)
  obtain ⟨b0, hbi, hbz0, hbz1, hbz2⟩ := infoBoolQ
  go_enter Tryz.func6, Tryz.ntmps6
  go_wp2_with fail
  rw [← hX0'.out]
  with_reducible refine (qA.out _ L.out).mono ?_
  rintro e X1 ⟨rfl, bX1⟩
  replace L := Lib.hid (L.out.below bX1)
  clear bX1
  have z0 := L.out.b1.cell 0
  have z1 := L.out.b1.cell 1
  have z2 := L.out.b1.cell 2
  have z3 := L.out.b1.cell 3
  simp at z0 z1 z2 z3
  go_wp2_with fail
  with_reducible refine (qk.out _ L.out).mono ?_
  rintro e X2 ⟨rfl, bX2⟩
  replace L := Lib.hid (L.out.below bX2)
  clear z0 z1 z2 z3
  clear bX2
  have z0 := L.out.b1.cell 0
  have z1 := L.out.b1.cell 1
  have z2 := L.out.b1.cell 2
  have z3 := L.out.b1.cell 3
  simp at z0 z1 z2 z3
  have hmk := run_make (P := Tryz.prog) X2 50 4 b0 (.bool false) Tryz.underlying50 hbi hbz0 .i64 .i64 (pn2 : Int) (pn2 : Int) (by omega) (Int.le_refl _) (by rw [hbz2]; omega) (by omega)
  simp only [Int.toNat_natCast] at hmk
  rw [hbz1] at hmk
  obtain ⟨W5, hW5⟩ : ∃ W5, W5 = X2.alloc (.cells (madeCells (Value.bool false).cells (pn2 * 1)) 4) := ⟨_, rfl⟩
  rw [← hW5] at hmk
  have I0 : Hid (BolI X2 X2.heap.size (inL pn2 (reachN A) 0) W5) := Lib.hid (by
    rw [← inL_zero]
    refine ⟨Nat.le_refl _, by rw [hW5]; exact box_below _ _ _, ?_⟩
    have q := own_cells X2 4 1 pn2 (madeCells (Value.bool false).cells (pn2 * 1)) (by rw [size_madeCells]) (by unfold maxLen; omega)
    rw [made_bols] at q
    rw [hW5, List.length_replicate]
    exact q)
  have L5 := Lib.hid (L.out.below (show Below X2.heap.size X2 W5 by rw [hW5]; exact box_below _ _ _))
  have hW5' := Lib.hid hW5
  clear hW5
  have LX2 := L
  replace L := L5
  clear L5
  have z0' := L.out.b1.cell 0
  have z1' := L.out.b1.cell 1
  have z2' := L.out.b1.cell 2
  have z3' := L.out.b1.cell 3
  simp at z0' z1' z2' z3'
  go_wp2_with fail
  with_reducible refine (qh.out _ L.out).mono ?_
  rintro e X3 ⟨a, nR, cR, rfl, hS, hfr, bX3⟩
  have I1 := Lib.hid (I0.out.made bX3)
  have hgW : X2.heap.size < W5.heap.size := I0.out.lt
  have hnR' : Hid (nR = (reachN A).length) := Lib.hid (by have := hS.len; have := hRl'.out; omega)
  have SE0 := Lib.hid (seesE_new (X := [X2.heap.size]) hS.sees (fun b off s e hb => by have h1 := hfr b off s e; simp at hb; omega))
  replace L := Lib.hid (L.out.below bX3)
  clear z0 z1 z2 z3 z0' z1' z2' z3' hmk hS hfr I0 qA qk qh
  go_wp2_with fail
  with_reducible refine (QL.out _ L.out.tab).mono ?_
  rintro e X4 ⟨rfl, bX4⟩
  have I2 := Lib.hid (I1.out.made bX4)
  have SE := Lib.hid ((SE0.out.belowE (.of bX4)).mono bX4.size)
  replace L := Lib.hid (L.out.below bX4)
  clear bX3 bX4 I1 SE0 QL hgW
  obtain ⟨hr1, hr2⟩ := hR0.out
  have hRl := hRl'.out
  have hnR := hnR'.out
  obtain ⟨ab, aoff, rfl, hab, hax, hac⟩ : ∃ b off, a = some ⟨b, off, none⟩ ∧ b < X4.heap.size ∧ b ∉ [X2.heap.size] ∧ ∀ i, i < (intsP (reachN A)).length → X4.cell? ⟨b, off + i, none⟩ = some (.int .i64 ((intsP (reachN A)).getD i 0)) := by
    rcases SE.out with h | h
    · exfalso; rw [h] at hRl; simp at hRl; omega
    · exact h
  have hx0 : X4.cell? ⟨ab, aoff, none⟩ = some (.int .i64 0) := by
    have q := hac 0 (by omega)
    rw [intsP_at _ hr1, hr2, Nat.add_zero] at q
    exact q
  have hnR0 : ¬ (nR : Int) = 0 := by omega
  have hnRb : ((nR : Int) == 0) = false := by simp; omega
  have hnRp : (0 : Int) < (nR : Int) := by omega
  have hnR128 : nR ≤ 128 := by have := reachN_len A; have := hls.out; omega
  have hac' := Lib.hid hac
  clear hac hRl SE hr1 hr2 hnR
  go_wp2
  clear hx0
  go_loopw [5] (fun x wr => ∃ i : Nat, i ≤ nR ∧ x = .int .i64 i ∧ Hid (BolI X2 X2.heap.size (inL pn2 (reachN A) i) wr) ∧ Hid (BelowE [X2.heap.size] X4.heap.size X4 wr)) (fun x _ => nR - (intOf x).toNat)
  case atStart => exact ⟨0, by omega, rfl, I2, Lib.hid (BelowE.refl _ _ _)⟩
  case round =>
    clear I2
    obtain ⟨i, hi, rfl, hI, hE⟩ := hrel
    by_cases hlt : i < nR
    · have hii : (i : Int) < (nR : Int) := by omega
      have hil : i < (reachN A).length := by rw [← hnR'.out]; exact hlt
      have x0 := (hE.out.cell (p := ⟨ab, aoff + i, none⟩) hab hax).trans (hac'.out i (by rw [intsP_len]; exact hil))
      rw [intsP_at _ hil] at x0
      have hr := reach_lt hil
      rw [← hls.out] at hr
      have hst := Lib.hid (inL_step (n := pn2) hil)
      generalize (reachN A).getD i 0 = r at *
      have hri : (r : Int) < (pn2 : Int) := by omega
      have hrn : ¬ pn2 ≤ r := by omega
      have hr0 : ¬ (r : Int) < 0 := by omega
      have ff := hI.out.free r
      have fc := hI.out.at_ (i := r) (by rw [inL_len]; exact hr)
      generalize (inL pn2 (reachN A) i).getD r false = c9 at fc
      have hI2 := Lib.hid (hI.out.set (i := r) (by rw [inL_len]; exact hr))
      rw [hst.out] at hI2
      have hE2 := Lib.hid (hE.out.setIn (p := ⟨X2.heap.size, r, none⟩) (by simp) (.bool true))
      clear hil hr hst
      go_wp2
      go_roundw
      case rel => exact ⟨i + 1, by omega, by go_num, hI2, hE2⟩
      case measure => simp [intOf]; omega
    · have hii : ¬ (i : Int) < (nR : Int) := by omega
      have hie : i = nR := by omega
      rw [hie, hnR'.out] at hI
      clear hie
      go_wp2
      clear hii hlt hi hE hac'
      generalize wr = u at *
      have Lu := Lib.hid (LX2.out.below hI.out.bel)
      have hgu := hI.out.lt
      have hall := Lib.hid (fun v (hv : v < pn2) => (hI.out.at_ (i := v) (by rw [inL_len]; exact hv)).trans (by rw [inL_at hv, List.take_length]))
      have hso := Lib.hid (fun (q : EdgeD → Bool) (i : Nat) h => sel_at (q := q) (l := A.edges) (m := A.edges.length) (i := i) h)
      have hnx := Lib.hid (fun e k s h1 h2 h3 h4 => reach_next hP.out (e := e) (k := k) (s := s) h1 h2 h3 h4)
      have hed := Lib.hid (fun i hi => edge_ends (prog_edge hP.out (i := i) hi))
      have hin := Lib.hid (fun k => into_len hP.out k)
      have hle2 := Lib.hid (fun k => into_le (E := pairsE A) k)
      have hfin : Hid (intoSum (pairsE A) pn2 = pn3) := Lib.hid (by rw [hls.out, into_all (fun e he => (pairs_lt hP.out e he).2), pairs_len, ← hle.out])
      have hpl : Hid ((pairsE A).length = pn3) := Lib.hid (by rw [pairs_len, ← hle.out])
      clear hI
      go_loopw [6, 7] (fun v x wr => ∃ k : Nat, k ≤ pn2 ∧ x = .int .i64 k ∧ v = .int .i64 ((intoSum (pairsE A) k : Nat) : Int) ∧ Hid (Below u.heap.size u wr)) (fun _ x _ => pn2 - (intOf x).toNat)
      case atStart => exact ⟨0, Nat.zero_le _, rfl, rfl, Lib.hid (Below.refl _ _)⟩
      case round =>
        obtain ⟨k, hk, rfl, rfl, hB⟩ := hrel
        have L := Lib.hid (Lu.out.below hB.out)
        have z0 := L.out.b1.cell 0
        have z1 := L.out.b1.cell 1
        have z2 := L.out.b1.cell 2
        have z3 := L.out.b1.cell 3
        simp at z0 z1 z2 z3
        have hsum := hle2.out k
        rw [hpl.out] at hsum
        by_cases hlt : k < pn2
        · have hki : (k : Int) < (pn2 : Int) := by omega
          have hsum2 := hle2.out (k + 1)
          rw [hpl.out, hin.out k] at hsum2
          have hin2 := Lib.hid (hin.out k)
          generalize intoSum (pairsE A) k = S at *
          go_wp2_with fail
          with_reducible refine (qo'.out _ _ L.out).mono ?_
          rintro e X6 ⟨ao, no, co, rfl, hO, bX6⟩
          replace L := Lib.hid (L.out.below bX6)
          replace hB := Lib.hid (hB.out.trans (bX6.mono hB.out.size))
          have hbk := (hB.out.cell (p := ⟨X2.heap.size, k, none⟩) hgu).trans (hall.out k hlt)
          clear bX6 z0 z1 z2 z3
          have hOl := Lib.hid hO.len
          have hOs := Lib.hid hO.sees
          have hnoM : no ≤ 9223372036854775807 := hO.max
          have hg6 : X2.heap.size < X6.heap.size := Nat.lt_of_lt_of_le hgu hB.out.size
          clear hO
          go_wp2
          go_loopw [9] (fun x wr => ∃ m : Nat, m ≤ no ∧ x = .int .i64 m ∧ Hid (Below X6.heap.size X6 wr)) (fun x _ => no - (intOf x).toNat)
          case atStart => exact ⟨0, Nat.zero_le _, rfl, Lib.hid (Below.refl _ _)⟩
          case round =>
            obtain ⟨m, hm, rfl, hW⟩ := hrel
            by_cases hlm : m < no
            · have hmi : (m : Int) < (no : Int) := by omega
              have hml : m < (selL (outQ (k : Int)) A.edges A.edges.length).length := by rw [← hOl.out]; exact hlm
              obtain ⟨bo, oo, rfl, hbo, y0⟩ := sees_num hOs.out hml
              obtain ⟨e, he1, he2, he3⟩ := hso.out _ _ hml
              rw [he1] at y0
              have he4 : e < pn3 := by rw [hle.out]; exact he2
              have hei : (e : Int) < (pn3 : Int) := by omega
              have hen : ¬ pn3 ≤ e := by omega
              have he0 : ¬ (e : Int) < 0 := by omega
              obtain ⟨b, off, rfl, hbl, x0, x1, x2, x3, x4, x5, x6⟩ := edges_at L.out.p1.edges he4
              have hfk : (A.edges.getD e edge0).frm = (k : Int) := by unfold outQ at he3; simpa using he3
              have hde := hed.out e he2
              obtain ⟨s, hs'⟩ := Int.eq_ofNat_of_zero_le hde.2.2.1
              have hsn : s < pn2 := by have := hde.2.2.2; have := hls.out; omega
              have hsi : (s : Int) < (pn2 : Int) := by omega
              have hbs := (hB.out.cell (p := ⟨X2.heap.size, s, none⟩) hgu).trans (hall.out s hsn)
              have hnn := hnx.out e k s he2 hfk hs'
              rw [hfk] at x0
              rw [hs'] at x1
              have z3 := L.out.b1.cell 3
              simp at z3
              have hz : w.heap.size < X6.heap.size := L.out.b1.lt
              have Y0 : ∀ W, Below X6.heap.size X6 W → W.cell? ⟨bo, oo + m, none⟩ = some (.int .i64 (e : Int)) := fun W hW => (hW.cell (p := ⟨bo, oo + m, none⟩) hbo).trans y0
              have Z3 : ∀ W, Below X6.heap.size X6 W → W.cell? ⟨w.heap.size, 3, none⟩ = some (.slice (some ⟨b, off, none⟩) pn3 pc3) := fun W hW => (hW.cell (p := ⟨w.heap.size, 3, none⟩) hz).trans z3
              have F0 : ∀ W, Below X6.heap.size X6 W → W.cell? ⟨b, off + e * 7, none⟩ = some (.int .i64 (k : Int)) := fun W hW => (hW.cell (p := ⟨b, off + e * 7, none⟩) hbl).trans x0
              have F1 : ∀ W, Below X6.heap.size X6 W → W.cell? ⟨b, off + e * 7 + 1, none⟩ = some (.int .i64 (s : Int)) := fun W hW => (hW.cell (p := ⟨b, off + e * 7 + 1, none⟩) hbl).trans x1
              have hkk : ((k : Int) != (k : Int)) = false := by simp
              clear he1 he3 hfk hde hs' x2 x3 x4 x5 x6 hml x0 x1 y0 z3
              cases hc : (reachN A).contains k
              · rw [hc] at hbk
                have B0 : ∀ W, Below X6.heap.size X6 W → W.cell? ⟨X2.heap.size, k, none⟩ = some (.bool false) := fun W hW => (hW.cell (p := ⟨X2.heap.size, k, none⟩) hg6).trans hbk
                clear hc hnn hbs
                go_wp2
                refine wp_drawn_on (fun W => Below X6.heap.size X6 W) (by kernel_rfl) (hW.out.drew) (fun hHeld => ?_)
                refine wpAnyH_take (i := 0) (oi := { dst := some 79, op := Go.Op.move (Go.Operand.tmp 8), type := 32, pos := "law.go:121", after := #[], guard := none }) (v := ?v1) rfl (by kernel_rfl) (by kernel_rfl) (by kernel_rfl) (fun _ _ _ h => h) (Or.inl ⟨by kernel_rfl, ?h1⟩) (by assumption) ?r1
                case h1 => (intro w hSw; (try dsimp only at hSw); go_simp; try with_reducible rfl)
                try simp only [Act.put, List.setIfInBounds_toArray, List.set_cons_zero, List.set_cons_succ]
                refine wpAnyH_take (i := 1) (oi := { dst := some 80, op := Go.Op.move (Go.Operand.tmp 9), type := 3, pos := "law.go:121", after := #[], guard := none }) (v := ?v2) rfl (by kernel_rfl) (by kernel_rfl) (by kernel_rfl) (fun _ _ _ h => h) (Or.inl ⟨by kernel_rfl, ?h2⟩) (by assumption) ?r2
                case h2 => (intro w hSw; (try dsimp only at hSw); go_simp; try with_reducible rfl)
                try simp only [Act.put, List.setIfInBounds_toArray, List.set_cons_zero, List.set_cons_succ]
                refine wpAnyH_take (i := 2) (oi := { dst := some 81, op := Go.Op.indexAddr 32 (Go.Operand.tmp 79) (Go.Operand.tmp 80), type := 0, pos := "law.go:121", after := #[{ on := 0, ground := Go.Ground.data }, { on := 1, ground := Go.Ground.data }], guard := none }) (v := ?v3) rfl (by kernel_rfl) (by kernel_rfl) (by kernel_rfl) (fun _ _ _ h => h) (Or.inl ⟨by kernel_rfl, ?h3⟩) (by assumption) ?r3
                case h3 => (intro w hSw; (try dsimp only at hSw); go_simp; try with_reducible rfl)
                try simp only [Act.put, List.setIfInBounds_toArray, List.set_cons_zero, List.set_cons_succ]
                refine wpAnyH_take (i := 3) (oi := { dst := some 82, op := Go.Op.load 3 (Go.Operand.tmp 81), type := 3, pos := "law.go:121", after := #[{ on := 2, ground := Go.Ground.data }], guard := none }) (v := ?v4) rfl (by kernel_rfl) (by kernel_rfl) (by kernel_rfl) (fun _ _ _ h => h) (Or.inl ⟨by kernel_rfl, ?h4⟩) (by assumption) ?r4
                case h4 => (intro w hSw; (try dsimp only at hSw); go_simp; try with_reducible rfl)
                try simp only [Act.put, List.setIfInBounds_toArray, List.set_cons_zero, List.set_cons_succ]
                refine wpAnyH_take (i := 4) (oi := { dst := some 83, op := Go.Op.binOp Go.BinOp.lss 3 (Go.Operand.tmp 82) (Go.Operand.const (Go.Value.int Go.IntKind.i64 0)) 3, type := 4, pos := "law.go:121", after := #[{ on := 3, ground := Go.Ground.data }], guard := none }) (v := ?v5) rfl (by kernel_rfl) (by kernel_rfl) (by kernel_rfl) (fun _ _ _ h => h) (Or.inl ⟨by kernel_rfl, ?h5⟩) (by assumption) ?r5
                case h5 => (intro w hSw; (try dsimp only at hSw); go_simp; try with_reducible rfl)
                try simp only [Act.put, List.setIfInBounds_toArray, List.set_cons_zero, List.set_cons_succ]
                refine wpAnyH_take (i := 5) (oi := { dst := some 84, op := Go.Op.move (Go.Operand.tmp 83), type := 4, pos := "law.go:121", after := #[{ on := 4, ground := Go.Ground.data }], guard := none }) (v := ?v6) rfl (by kernel_rfl) (by kernel_rfl) (by kernel_rfl) (fun _ _ _ h => h) (Or.inl ⟨by kernel_rfl, ?h6⟩) (by assumption) ?r6
                case h6 => (intro w hSw; (try dsimp only at hSw); go_simp; try with_reducible rfl)
                try simp only [Act.put, List.setIfInBounds_toArray, List.set_cons_zero, List.set_cons_succ]
                refine wpAnyH_take (i := 6) (oi := { dst := some 85, op := Go.Op.move (Go.Operand.tmp 8), type := 32, pos := "law.go:121", after := #[{ on := 5, ground := Go.Ground.guard }], guard := some (5, false) }) (v := ?v7) rfl (by kernel_rfl) (by kernel_rfl) (by kernel_rfl) (fun _ _ _ h => h) (Or.inl ⟨by kernel_rfl, ?h7⟩) (by assumption) ?r7
                case h7 => (intro w hSw; (try dsimp only at hSw); go_simp; try with_reducible rfl)
                try simp only [Act.put, List.setIfInBounds_toArray, List.set_cons_zero, List.set_cons_succ]
                refine wpAnyH_take (i := 7) (oi := { dst := some 86, op := Go.Op.move (Go.Operand.tmp 9), type := 3, pos := "law.go:121", after := #[{ on := 5, ground := Go.Ground.guard }], guard := some (5, false) }) (v := ?v8) rfl (by kernel_rfl) (by kernel_rfl) (by kernel_rfl) (fun _ _ _ h => h) (Or.inl ⟨by kernel_rfl, ?h8⟩) (by assumption) ?r8
                case h8 => (intro w hSw; (try dsimp only at hSw); go_simp; try with_reducible rfl)
                try simp only [Act.put, List.setIfInBounds_toArray, List.set_cons_zero, List.set_cons_succ]
                refine wpAnyH_take (i := 8) (oi := { dst := some 87, op := Go.Op.indexAddr 32 (Go.Operand.tmp 85) (Go.Operand.tmp 86), type := 0, pos := "law.go:121", after := #[{ on := 6, ground := Go.Ground.data }, { on := 7, ground := Go.Ground.data }, { on := 5, ground := Go.Ground.guard }], guard := some (5, false) }) (v := ?v9) rfl (by kernel_rfl) (by kernel_rfl) (by kernel_rfl) (fun _ _ _ h => h) (Or.inl ⟨by kernel_rfl, ?h9⟩) (by assumption) ?r9
                case h9 => (intro w hSw; (try dsimp only at hSw); go_simp; try with_reducible rfl)
                try simp only [Act.put, List.setIfInBounds_toArray, List.set_cons_zero, List.set_cons_succ]
                refine wpAnyH_take (i := 9) (oi := { dst := some 88, op := Go.Op.load 3 (Go.Operand.tmp 87), type := 3, pos := "law.go:121", after := #[{ on := 8, ground := Go.Ground.data }, { on := 5, ground := Go.Ground.guard }], guard := some (5, false) }) (v := ?v10) rfl (by kernel_rfl) (by kernel_rfl) (by kernel_rfl) (fun _ _ _ h => h) (Or.inl ⟨by kernel_rfl, ?h10⟩) (by assumption) ?r10
                case h10 => (intro w hSw; (try dsimp only at hSw); go_simp; try with_reducible rfl)
                try simp only [Act.put, List.setIfInBounds_toArray, List.set_cons_zero, List.set_cons_succ]
                refine wpAnyH_take (i := 10) (oi := { dst := some 89, op := Go.Op.fieldAddr 26 (Go.Operand.tmp 1) 3, type := 0, pos := "law.go:121", after := #[{ on := 5, ground := Go.Ground.guard }], guard := some (5, false) }) (v := ?v11) rfl (by kernel_rfl) (by kernel_rfl) (by kernel_rfl) (fun _ _ _ h => h) (Or.inl ⟨by kernel_rfl, ?h11⟩) (by assumption) ?r11
                case h11 => (intro w hSw; (try dsimp only at hSw); go_simp; try with_reducible rfl)
                try simp only [Act.put, List.setIfInBounds_toArray, List.set_cons_zero, List.set_cons_succ]
                refine wpAnyH_take (i := 11) (oi := { dst := some 90, op := Go.Op.load 24 (Go.Operand.tmp 89), type := 24, pos := "law.go:121", after := #[{ on := 10, ground := Go.Ground.data }, { on := 5, ground := Go.Ground.guard }], guard := some (5, false) }) (v := ?v12) rfl (by kernel_rfl) (by kernel_rfl) (by kernel_rfl) (fun _ _ _ h => h) (Or.inl ⟨by kernel_rfl, ?h12⟩) (by assumption) ?r12
                case h12 => (intro w hSw; (try dsimp only at hSw); go_simp; try with_reducible rfl)
                try simp only [Act.put, List.setIfInBounds_toArray, List.set_cons_zero, List.set_cons_succ]
                refine wpAnyH_take (i := 12) (oi := { dst := some 91, op := Go.Op.call { callee := Go.Callee.builtin Go.Builtin.len, args := #[Go.Operand.tmp 90], argTypes := #[24] }, type := 3, pos := "law.go:121", after := #[{ on := 11, ground := Go.Ground.data }, { on := 5, ground := Go.Ground.guard }], guard := some (5, false) }) (v := ?v13) rfl (by kernel_rfl) (by kernel_rfl) (by kernel_rfl) (fun _ _ _ h => h) (Or.inl ⟨by kernel_rfl, ?h13⟩) (by assumption) ?r13
                case h13 => (intro w hSw; (try dsimp only at hSw); go_simp; try with_reducible rfl)
                try simp only [Act.put, List.setIfInBounds_toArray, List.set_cons_zero, List.set_cons_succ]
                refine wpAnyH_take (i := 13) (oi := { dst := some 92, op := Go.Op.binOp Go.BinOp.geq 3 (Go.Operand.tmp 88) (Go.Operand.tmp 91) 3, type := 4, pos := "law.go:121", after := #[{ on := 9, ground := Go.Ground.data }, { on := 12, ground := Go.Ground.data }, { on := 5, ground := Go.Ground.guard }], guard := some (5, false) }) (v := ?v14) rfl (by kernel_rfl) (by kernel_rfl) (by kernel_rfl) (fun _ _ _ h => h) (Or.inl ⟨by kernel_rfl, ?h14⟩) (by assumption) ?r14
                case h14 => (intro w hSw; (try dsimp only at hSw); go_simp; try with_reducible rfl)
                try simp only [Act.put, List.setIfInBounds_toArray, List.set_cons_zero, List.set_cons_succ]
                refine wpAnyH_take (i := 14) (oi := { dst := some 93, op := Go.Op.pick (Go.Operand.tmp 84) (Go.Operand.const (Go.Value.bool true)) (Go.Operand.tmp 92), type := 4, pos := "law.go:121", after := #[{ on := 5, ground := Go.Ground.data }, { on := 13, ground := Go.Ground.data }], guard := none }) (v := ?v15) rfl (by kernel_rfl) (by kernel_rfl) (by kernel_rfl) (fun _ _ _ h => h) (Or.inl ⟨by kernel_rfl, ?h15⟩) (by assumption) ?r15
                case h15 => (intro w hSw; (try dsimp only at hSw); go_simp; try with_reducible rfl)
                try simp only [Act.put, List.setIfInBounds_toArray, List.set_cons_zero, List.set_cons_succ]
                refine wpAnyH_take (i := 15) (oi := { dst := some 94, op := Go.Op.move (Go.Operand.tmp 93), type := 4, pos := "law.go:121", after := #[{ on := 14, ground := Go.Ground.data }, { on := 5, ground := Go.Ground.chain }], guard := none }) (v := ?v16) rfl (by kernel_rfl) (by kernel_rfl) (by kernel_rfl) (fun _ _ _ h => h) (Or.inl ⟨by kernel_rfl, ?h16⟩) (by assumption) ?r16
                case h16 => (intro w hSw; (try dsimp only at hSw); go_simp; try with_reducible rfl)
                try simp only [Act.put, List.setIfInBounds_toArray, List.set_cons_zero, List.set_cons_succ]
                refine wpAnyH_take (i := 16) (oi := { dst := some 95, op := Go.Op.fieldAddr 26 (Go.Operand.tmp 1) 3, type := 0, pos := "law.go:121", after := #[{ on := 15, ground := Go.Ground.guard }], guard := some (15, false) }) (v := ?v17) rfl (by kernel_rfl) (by kernel_rfl) (by kernel_rfl) (fun _ _ _ h => h) (Or.inl ⟨by kernel_rfl, ?h17⟩) (by assumption) ?r17
                case h17 => (intro w hSw; (try dsimp only at hSw); go_simp; try with_reducible rfl)
                try simp only [Act.put, List.setIfInBounds_toArray, List.set_cons_zero, List.set_cons_succ]
                refine wpAnyH_take (i := 17) (oi := { dst := some 96, op := Go.Op.load 24 (Go.Operand.tmp 95), type := 24, pos := "law.go:121", after := #[{ on := 16, ground := Go.Ground.data }, { on := 15, ground := Go.Ground.guard }], guard := some (15, false) }) (v := ?v18) rfl (by kernel_rfl) (by kernel_rfl) (by kernel_rfl) (fun _ _ _ h => h) (Or.inl ⟨by kernel_rfl, ?h18⟩) (by assumption) ?r18
                case h18 => (intro w hSw; (try dsimp only at hSw); go_simp; try with_reducible rfl)
                try simp only [Act.put, List.setIfInBounds_toArray, List.set_cons_zero, List.set_cons_succ]
                refine wpAnyH_take (i := 18) (oi := { dst := some 97, op := Go.Op.move (Go.Operand.tmp 8), type := 32, pos := "law.go:121", after := #[{ on := 15, ground := Go.Ground.guard }], guard := some (15, false) }) (v := ?v19) rfl (by kernel_rfl) (by kernel_rfl) (by kernel_rfl) (fun _ _ _ h => h) (Or.inl ⟨by kernel_rfl, ?h19⟩) (by assumption) ?r19
                case h19 => (intro w hSw; (try dsimp only at hSw); go_simp; try with_reducible rfl)
                try simp only [Act.put, List.setIfInBounds_toArray, List.set_cons_zero, List.set_cons_succ]
                refine wpAnyH_take (i := 19) (oi := { dst := some 98, op := Go.Op.move (Go.Operand.tmp 9), type := 3, pos := "law.go:121", after := #[{ on := 15, ground := Go.Ground.guard }], guard := some (15, false) }) (v := ?v20) rfl (by kernel_rfl) (by kernel_rfl) (by kernel_rfl) (fun _ _ _ h => h) (Or.inl ⟨by kernel_rfl, ?h20⟩) (by assumption) ?r20
                case h20 => (intro w hSw; (try dsimp only at hSw); go_simp; try with_reducible rfl)
                try simp only [Act.put, List.setIfInBounds_toArray, List.set_cons_zero, List.set_cons_succ]
                refine wpAnyH_take (i := 20) (oi := { dst := some 99, op := Go.Op.indexAddr 32 (Go.Operand.tmp 97) (Go.Operand.tmp 98), type := 0, pos := "law.go:121", after := #[{ on := 18, ground := Go.Ground.data }, { on := 19, ground := Go.Ground.data }, { on := 15, ground := Go.Ground.guard }], guard := some (15, false) }) (v := ?v21) rfl (by kernel_rfl) (by kernel_rfl) (by kernel_rfl) (fun _ _ _ h => h) (Or.inl ⟨by kernel_rfl, ?h21⟩) (by assumption) ?r21
                case h21 => (intro w hSw; (try dsimp only at hSw); go_simp; try with_reducible rfl)
                try simp only [Act.put, List.setIfInBounds_toArray, List.set_cons_zero, List.set_cons_succ]
                refine wpAnyH_take (i := 21) (oi := { dst := some 100, op := Go.Op.load 3 (Go.Operand.tmp 99), type := 3, pos := "law.go:121", after := #[{ on := 20, ground := Go.Ground.data }, { on := 15, ground := Go.Ground.guard }], guard := some (15, false) }) (v := ?v22) rfl (by kernel_rfl) (by kernel_rfl) (by kernel_rfl) (fun _ _ _ h => h) (Or.inl ⟨by kernel_rfl, ?h22⟩) (by assumption) ?r22
                case h22 => (intro w hSw; (try dsimp only at hSw); go_simp; try with_reducible rfl)
                try simp only [Act.put, List.setIfInBounds_toArray, List.set_cons_zero, List.set_cons_succ]
                refine wpAnyH_take (i := 22) (oi := { dst := some 101, op := Go.Op.indexAddr 24 (Go.Operand.tmp 96) (Go.Operand.tmp 100), type := 0, pos := "law.go:121", after := #[{ on := 17, ground := Go.Ground.data }, { on := 21, ground := Go.Ground.data }, { on := 15, ground := Go.Ground.guard }], guard := some (15, false) }) (v := ?v23) rfl (by kernel_rfl) (by kernel_rfl) (by kernel_rfl) (fun _ _ _ h => h) (Or.inl ⟨by kernel_rfl, ?h23⟩) (by assumption) ?r23
                case h23 => (intro w hSw; (try dsimp only at hSw); go_simp; try with_reducible rfl)
                try simp only [Act.put, List.setIfInBounds_toArray, List.set_cons_zero, List.set_cons_succ]
                refine wpAnyH_take (i := 23) (oi := { dst := some 102, op := Go.Op.fieldAddr 52 (Go.Operand.tmp 101) 0, type := 0, pos := "law.go:121", after := #[{ on := 22, ground := Go.Ground.data }, { on := 15, ground := Go.Ground.guard }], guard := some (15, false) }) (v := ?v24) rfl (by kernel_rfl) (by kernel_rfl) (by kernel_rfl) (fun _ _ _ h => h) (Or.inl ⟨by kernel_rfl, ?h24⟩) (by assumption) ?r24
                case h24 => (intro w hSw; (try dsimp only at hSw); go_simp; try with_reducible rfl)
                try simp only [Act.put, List.setIfInBounds_toArray, List.set_cons_zero, List.set_cons_succ]
                refine wpAnyH_take (i := 24) (oi := { dst := some 103, op := Go.Op.load 3 (Go.Operand.tmp 102), type := 3, pos := "law.go:121", after := #[{ on := 23, ground := Go.Ground.data }, { on := 15, ground := Go.Ground.guard }], guard := some (15, false) }) (v := ?v25) rfl (by kernel_rfl) (by kernel_rfl) (by kernel_rfl) (fun _ _ _ h => h) (Or.inl ⟨by kernel_rfl, ?h25⟩) (by assumption) ?r25
                case h25 => (intro w hSw; (try dsimp only at hSw); go_simp; try with_reducible rfl)
                try simp only [Act.put, List.setIfInBounds_toArray, List.set_cons_zero, List.set_cons_succ]
                refine wpAnyH_take (i := 25) (oi := { dst := some 104, op := Go.Op.move (Go.Operand.tmp 7), type := 3, pos := "law.go:121", after := #[{ on := 15, ground := Go.Ground.guard }], guard := some (15, false) }) (v := ?v26) rfl (by kernel_rfl) (by kernel_rfl) (by kernel_rfl) (fun _ _ _ h => h) (Or.inl ⟨by kernel_rfl, ?h26⟩) (by assumption) ?r26
                case h26 => (intro w hSw; (try dsimp only at hSw); go_simp; try with_reducible rfl)
                try simp only [Act.put, List.setIfInBounds_toArray, List.set_cons_zero, List.set_cons_succ]
                refine wpAnyH_take (i := 26) (oi := { dst := some 105, op := Go.Op.binOp Go.BinOp.neq 3 (Go.Operand.tmp 103) (Go.Operand.tmp 104) 3, type := 4, pos := "law.go:121", after := #[{ on := 24, ground := Go.Ground.data }, { on := 25, ground := Go.Ground.data }, { on := 15, ground := Go.Ground.guard }], guard := some (15, false) }) (v := ?v27) rfl (by kernel_rfl) (by kernel_rfl) (by kernel_rfl) (fun _ _ _ h => h) (Or.inl ⟨by kernel_rfl, ?h27⟩) (by assumption) ?r27
                case h27 => (intro w hSw; (try dsimp only at hSw); go_simp; try with_reducible rfl)
                try simp only [Act.put, List.setIfInBounds_toArray, List.set_cons_zero, List.set_cons_succ]
                refine wpAnyH_take (i := 27) (oi := { dst := some 106, op := Go.Op.pick (Go.Operand.tmp 94) (Go.Operand.const (Go.Value.bool true)) (Go.Operand.tmp 105), type := 4, pos := "law.go:121", after := #[{ on := 15, ground := Go.Ground.data }, { on := 26, ground := Go.Ground.data }], guard := none }) (v := ?v28) rfl (by kernel_rfl) (by kernel_rfl) (by kernel_rfl) (fun _ _ _ h => h) (Or.inl ⟨by kernel_rfl, ?h28⟩) (by assumption) ?r28
                case h28 => (intro w hSw; (try dsimp only at hSw); go_simp; try with_reducible rfl)
                try simp only [Act.put, List.setIfInBounds_toArray, List.set_cons_zero, List.set_cons_succ]
                refine wpAnyH_take (i := 28) (oi := { dst := some 107, op := Go.Op.move (Go.Operand.tmp 106), type := 4, pos := "law.go:121", after := #[{ on := 27, ground := Go.Ground.data }, { on := 15, ground := Go.Ground.chain }], guard := none }) (v := ?v29) rfl (by kernel_rfl) (by kernel_rfl) (by kernel_rfl) (fun _ _ _ h => h) (Or.inl ⟨by kernel_rfl, ?h29⟩) (by assumption) ?r29
                case h29 => (intro w hSw; (try dsimp only at hSw); go_simp; try with_reducible rfl)
                try simp only [Act.put, List.setIfInBounds_toArray, List.set_cons_zero, List.set_cons_succ]
                refine wpAnyH_take (i := 29) (oi := { dst := some 108, op := Go.Op.move (Go.Operand.tmp 3), type := 50, pos := "law.go:121", after := #[{ on := 28, ground := Go.Ground.guard }], guard := some (28, false) }) (v := ?v30) rfl (by kernel_rfl) (by kernel_rfl) (by kernel_rfl) (fun _ _ _ h => h) (Or.inl ⟨by kernel_rfl, ?h30⟩) (by assumption) ?r30
                case h30 => (intro w hSw; (try dsimp only at hSw); go_simp; try with_reducible rfl)
                try simp only [Act.put, List.setIfInBounds_toArray, List.set_cons_zero, List.set_cons_succ]
                refine wpAnyH_take (i := 30) (oi := { dst := some 109, op := Go.Op.move (Go.Operand.tmp 7), type := 3, pos := "law.go:121", after := #[{ on := 28, ground := Go.Ground.guard }], guard := some (28, false) }) (v := ?v31) rfl (by kernel_rfl) (by kernel_rfl) (by kernel_rfl) (fun _ _ _ h => h) (Or.inl ⟨by kernel_rfl, ?h31⟩) (by assumption) ?r31
                case h31 => (intro w hSw; (try dsimp only at hSw); go_simp; try with_reducible rfl)
                try simp only [Act.put, List.setIfInBounds_toArray, List.set_cons_zero, List.set_cons_succ]
                refine wpAnyH_take (i := 31) (oi := { dst := some 110, op := Go.Op.indexAddr 50 (Go.Operand.tmp 108) (Go.Operand.tmp 109), type := 0, pos := "law.go:121", after := #[{ on := 29, ground := Go.Ground.data }, { on := 30, ground := Go.Ground.data }, { on := 28, ground := Go.Ground.guard }], guard := some (28, false) }) (v := ?v32) rfl (by kernel_rfl) (by kernel_rfl) (by kernel_rfl) (fun _ _ _ h => h) (Or.inl ⟨by kernel_rfl, ?h32⟩) (by assumption) ?r32
                case h32 => (intro w hSw; (try dsimp only at hSw); go_simp; try with_reducible rfl)
                try simp only [Act.put, List.setIfInBounds_toArray, List.set_cons_zero, List.set_cons_succ]
                refine wpAnyH_take (i := 32) (oi := { dst := some 111, op := Go.Op.load 4 (Go.Operand.tmp 110), type := 4, pos := "law.go:121", after := #[{ on := 31, ground := Go.Ground.data }, { on := 28, ground := Go.Ground.guard }], guard := some (28, false) }) (v := ?v33) rfl (by kernel_rfl) (by kernel_rfl) (by kernel_rfl) (fun _ _ _ h => h) (Or.inl ⟨by kernel_rfl, ?h33⟩) (by assumption) ?r33
                case h33 => (intro w hSw; (try dsimp only at hSw); go_simp; try with_reducible rfl)
                try simp only [Act.put, List.setIfInBounds_toArray, List.set_cons_zero, List.set_cons_succ]
                refine wpAnyH_take (i := 33) (oi := { dst := some 112, op := Go.Op.move (Go.Operand.tmp 111), type := 4, pos := "law.go:121", after := #[{ on := 32, ground := Go.Ground.data }, { on := 28, ground := Go.Ground.chain }, { on := 28, ground := Go.Ground.guard }], guard := some (28, false) }) (v := ?v34) rfl (by kernel_rfl) (by kernel_rfl) (by kernel_rfl) (fun _ _ _ h => h) (Or.inl ⟨by kernel_rfl, ?h34⟩) (by assumption) ?r34
                case h34 => (intro w hSw; (try dsimp only at hSw); go_simp; try with_reducible rfl)
                try simp only [Act.put, List.setIfInBounds_toArray, List.set_cons_zero, List.set_cons_succ]
                refine wpAnyH_take (i := 34) (oi := { dst := some 113, op := Go.Op.move (Go.Operand.tmp 3), type := 50, pos := "law.go:121", after := #[{ on := 33, ground := Go.Ground.guard }], guard := some (33, true) }) (v := undef) rfl (by kernel_rfl) (by kernel_rfl) (by kernel_rfl) (fun _ _ _ h => h) (Or.inr ⟨by kernel_rfl, rfl⟩) (by assumption) ?_
                try simp only [Act.put, List.setIfInBounds_toArray, List.set_cons_zero, List.set_cons_succ]
                refine wpAnyH_take (i := 35) (oi := { dst := some 114, op := Go.Op.fieldAddr 26 (Go.Operand.tmp 1) 3, type := 0, pos := "law.go:121", after := #[{ on := 33, ground := Go.Ground.guard }], guard := some (33, true) }) (v := undef) rfl (by kernel_rfl) (by kernel_rfl) (by kernel_rfl) (fun _ _ _ h => h) (Or.inr ⟨by kernel_rfl, rfl⟩) (by assumption) ?_
                try simp only [Act.put, List.setIfInBounds_toArray, List.set_cons_zero, List.set_cons_succ]
                refine wpAnyH_take (i := 36) (oi := { dst := some 115, op := Go.Op.load 24 (Go.Operand.tmp 114), type := 24, pos := "law.go:121", after := #[{ on := 35, ground := Go.Ground.data }, { on := 33, ground := Go.Ground.guard }], guard := some (33, true) }) (v := undef) rfl (by kernel_rfl) (by kernel_rfl) (by kernel_rfl) (fun _ _ _ h => h) (Or.inr ⟨by kernel_rfl, rfl⟩) (by assumption) ?_
                try simp only [Act.put, List.setIfInBounds_toArray, List.set_cons_zero, List.set_cons_succ]
                refine wpAnyH_take (i := 37) (oi := { dst := some 116, op := Go.Op.move (Go.Operand.tmp 8), type := 32, pos := "law.go:121", after := #[{ on := 33, ground := Go.Ground.guard }], guard := some (33, true) }) (v := undef) rfl (by kernel_rfl) (by kernel_rfl) (by kernel_rfl) (fun _ _ _ h => h) (Or.inr ⟨by kernel_rfl, rfl⟩) (by assumption) ?_
                try simp only [Act.put, List.setIfInBounds_toArray, List.set_cons_zero, List.set_cons_succ]
                refine wpAnyH_take (i := 38) (oi := { dst := some 117, op := Go.Op.move (Go.Operand.tmp 9), type := 3, pos := "law.go:121", after := #[{ on := 33, ground := Go.Ground.guard }], guard := some (33, true) }) (v := undef) rfl (by kernel_rfl) (by kernel_rfl) (by kernel_rfl) (fun _ _ _ h => h) (Or.inr ⟨by kernel_rfl, rfl⟩) (by assumption) ?_
                try simp only [Act.put, List.setIfInBounds_toArray, List.set_cons_zero, List.set_cons_succ]
                refine wpAnyH_take (i := 39) (oi := { dst := some 118, op := Go.Op.indexAddr 32 (Go.Operand.tmp 116) (Go.Operand.tmp 117), type := 0, pos := "law.go:121", after := #[{ on := 37, ground := Go.Ground.data }, { on := 38, ground := Go.Ground.data }, { on := 33, ground := Go.Ground.guard }], guard := some (33, true) }) (v := undef) rfl (by kernel_rfl) (by kernel_rfl) (by kernel_rfl) (fun _ _ _ h => h) (Or.inr ⟨by kernel_rfl, rfl⟩) (by assumption) ?_
                try simp only [Act.put, List.setIfInBounds_toArray, List.set_cons_zero, List.set_cons_succ]
                refine wpAnyH_take (i := 40) (oi := { dst := some 119, op := Go.Op.load 3 (Go.Operand.tmp 118), type := 3, pos := "law.go:121", after := #[{ on := 39, ground := Go.Ground.data }, { on := 33, ground := Go.Ground.guard }], guard := some (33, true) }) (v := undef) rfl (by kernel_rfl) (by kernel_rfl) (by kernel_rfl) (fun _ _ _ h => h) (Or.inr ⟨by kernel_rfl, rfl⟩) (by assumption) ?_
                try simp only [Act.put, List.setIfInBounds_toArray, List.set_cons_zero, List.set_cons_succ]
                refine wpAnyH_take (i := 41) (oi := { dst := some 120, op := Go.Op.indexAddr 24 (Go.Operand.tmp 115) (Go.Operand.tmp 119), type := 0, pos := "law.go:121", after := #[{ on := 36, ground := Go.Ground.data }, { on := 40, ground := Go.Ground.data }, { on := 33, ground := Go.Ground.guard }], guard := some (33, true) }) (v := undef) rfl (by kernel_rfl) (by kernel_rfl) (by kernel_rfl) (fun _ _ _ h => h) (Or.inr ⟨by kernel_rfl, rfl⟩) (by assumption) ?_
                try simp only [Act.put, List.setIfInBounds_toArray, List.set_cons_zero, List.set_cons_succ]
                refine wpAnyH_take (i := 42) (oi := { dst := some 121, op := Go.Op.fieldAddr 52 (Go.Operand.tmp 120) 1, type := 0, pos := "law.go:121", after := #[{ on := 41, ground := Go.Ground.data }, { on := 33, ground := Go.Ground.guard }], guard := some (33, true) }) (v := undef) rfl (by kernel_rfl) (by kernel_rfl) (by kernel_rfl) (fun _ _ _ h => h) (Or.inr ⟨by kernel_rfl, rfl⟩) (by assumption) ?_
                try simp only [Act.put, List.setIfInBounds_toArray, List.set_cons_zero, List.set_cons_succ]
                refine wpAnyH_take (i := 43) (oi := { dst := some 122, op := Go.Op.load 3 (Go.Operand.tmp 121), type := 3, pos := "law.go:121", after := #[{ on := 42, ground := Go.Ground.data }, { on := 33, ground := Go.Ground.guard }], guard := some (33, true) }) (v := undef) rfl (by kernel_rfl) (by kernel_rfl) (by kernel_rfl) (fun _ _ _ h => h) (Or.inr ⟨by kernel_rfl, rfl⟩) (by assumption) ?_
                try simp only [Act.put, List.setIfInBounds_toArray, List.set_cons_zero, List.set_cons_succ]
                refine wpAnyH_take (i := 44) (oi := { dst := some 123, op := Go.Op.indexAddr 50 (Go.Operand.tmp 113) (Go.Operand.tmp 122), type := 0, pos := "law.go:121", after := #[{ on := 34, ground := Go.Ground.data }, { on := 43, ground := Go.Ground.data }, { on := 33, ground := Go.Ground.guard }], guard := some (33, true) }) (v := undef) rfl (by kernel_rfl) (by kernel_rfl) (by kernel_rfl) (fun _ _ _ h => h) (Or.inr ⟨by kernel_rfl, rfl⟩) (by assumption) ?_
                try simp only [Act.put, List.setIfInBounds_toArray, List.set_cons_zero, List.set_cons_succ]
                refine wpAnyH_take (i := 45) (oi := { dst := some 124, op := Go.Op.load 4 (Go.Operand.tmp 123), type := 4, pos := "law.go:121", after := #[{ on := 44, ground := Go.Ground.data }, { on := 33, ground := Go.Ground.guard }], guard := some (33, true) }) (v := undef) rfl (by kernel_rfl) (by kernel_rfl) (by kernel_rfl) (fun _ _ _ h => h) (Or.inr ⟨by kernel_rfl, rfl⟩) (by assumption) ?_
                try simp only [Act.put, List.setIfInBounds_toArray, List.set_cons_zero, List.set_cons_succ]
                refine wpAnyH_take (i := 46) (oi := { dst := some 125, op := Go.Op.unOp Go.UnOp.not 4 (Go.Operand.tmp 124), type := 4, pos := "law.go:121", after := #[{ on := 45, ground := Go.Ground.data }, { on := 33, ground := Go.Ground.guard }], guard := some (33, true) }) (v := undef) rfl (by kernel_rfl) (by kernel_rfl) (by kernel_rfl) (fun _ _ _ h => h) (Or.inr ⟨by kernel_rfl, rfl⟩) (by assumption) ?_
                try simp only [Act.put, List.setIfInBounds_toArray, List.set_cons_zero, List.set_cons_succ]
                refine wpAnyH_take (i := 47) (oi := { dst := some 126, op := Go.Op.pick (Go.Operand.tmp 112) (Go.Operand.tmp 125) (Go.Operand.const (Go.Value.bool false)), type := 4, pos := "law.go:121", after := #[{ on := 33, ground := Go.Ground.data }, { on := 46, ground := Go.Ground.data }, { on := 28, ground := Go.Ground.guard }], guard := some (28, false) }) (v := ?v48) rfl (by kernel_rfl) (by kernel_rfl) (by kernel_rfl) (fun _ _ _ h => h) (Or.inl ⟨by kernel_rfl, ?h48⟩) (by assumption) ?r48
                case h48 => (intro w hSw; (try dsimp only at hSw); go_simp; try with_reducible rfl)
                try simp only [Act.put, List.setIfInBounds_toArray, List.set_cons_zero, List.set_cons_succ]
                refine wpAnyH_take (i := 48) (oi := { dst := some 127, op := Go.Op.pick (Go.Operand.tmp 107) (Go.Operand.const (Go.Value.bool true)) (Go.Operand.tmp 126), type := 4, pos := "law.go:121", after := #[{ on := 28, ground := Go.Ground.data }, { on := 47, ground := Go.Ground.data }], guard := none }) (v := ?v49) rfl (by kernel_rfl) (by kernel_rfl) (by kernel_rfl) (fun _ _ _ h => h) (Or.inl ⟨by kernel_rfl, ?h49⟩) (by assumption) ?r49
                case h49 => (intro w hSw; (try dsimp only at hSw); go_simp; try with_reducible rfl)
                try simp only [Act.put, List.setIfInBounds_toArray, List.set_cons_zero, List.set_cons_succ]
                refine wpAnyH_done (by kernel_rfl) ?_ _
                go_wp2
                go_roundw
                case rel => exact ⟨m + 1, by omega, by go_num, Lib.hid hHeld⟩
                case measure => simp [intOf]; omega
              · rw [hc] at hbk
                rw [hnn hc] at hbs
                have B0 : ∀ W, Below X6.heap.size X6 W → W.cell? ⟨X2.heap.size, k, none⟩ = some (.bool true) := fun W hW => (hW.cell (p := ⟨X2.heap.size, k, none⟩) hg6).trans hbk
                have B1 : ∀ W, Below X6.heap.size X6 W → W.cell? ⟨X2.heap.size, s, none⟩ = some (.bool true) := fun W hW => (hW.cell (p := ⟨X2.heap.size, s, none⟩) hg6).trans hbs
                clear hc hnn hbs
                go_wp2
                refine wp_drawn_on (fun W => Below X6.heap.size X6 W) (by kernel_rfl) (hW.out.drew) (fun hHeld => ?_)
                refine wpAnyH_take (i := 0) (oi := { dst := some 79, op := Go.Op.move (Go.Operand.tmp 8), type := 32, pos := "law.go:121", after := #[], guard := none }) (v := ?v50) rfl (by kernel_rfl) (by kernel_rfl) (by kernel_rfl) (fun _ _ _ h => h) (Or.inl ⟨by kernel_rfl, ?h50⟩) (by assumption) ?r50
                case h50 => (intro w hSw; (try dsimp only at hSw); go_simp; try with_reducible rfl)
                try simp only [Act.put, List.setIfInBounds_toArray, List.set_cons_zero, List.set_cons_succ]
                refine wpAnyH_take (i := 1) (oi := { dst := some 80, op := Go.Op.move (Go.Operand.tmp 9), type := 3, pos := "law.go:121", after := #[], guard := none }) (v := ?v51) rfl (by kernel_rfl) (by kernel_rfl) (by kernel_rfl) (fun _ _ _ h => h) (Or.inl ⟨by kernel_rfl, ?h51⟩) (by assumption) ?r51
                case h51 => (intro w hSw; (try dsimp only at hSw); go_simp; try with_reducible rfl)
                try simp only [Act.put, List.setIfInBounds_toArray, List.set_cons_zero, List.set_cons_succ]
                refine wpAnyH_take (i := 2) (oi := { dst := some 81, op := Go.Op.indexAddr 32 (Go.Operand.tmp 79) (Go.Operand.tmp 80), type := 0, pos := "law.go:121", after := #[{ on := 0, ground := Go.Ground.data }, { on := 1, ground := Go.Ground.data }], guard := none }) (v := ?v52) rfl (by kernel_rfl) (by kernel_rfl) (by kernel_rfl) (fun _ _ _ h => h) (Or.inl ⟨by kernel_rfl, ?h52⟩) (by assumption) ?r52
                case h52 => (intro w hSw; (try dsimp only at hSw); go_simp; try with_reducible rfl)
                try simp only [Act.put, List.setIfInBounds_toArray, List.set_cons_zero, List.set_cons_succ]
                refine wpAnyH_take (i := 3) (oi := { dst := some 82, op := Go.Op.load 3 (Go.Operand.tmp 81), type := 3, pos := "law.go:121", after := #[{ on := 2, ground := Go.Ground.data }], guard := none }) (v := ?v53) rfl (by kernel_rfl) (by kernel_rfl) (by kernel_rfl) (fun _ _ _ h => h) (Or.inl ⟨by kernel_rfl, ?h53⟩) (by assumption) ?r53
                case h53 => (intro w hSw; (try dsimp only at hSw); go_simp; try with_reducible rfl)
                try simp only [Act.put, List.setIfInBounds_toArray, List.set_cons_zero, List.set_cons_succ]
                refine wpAnyH_take (i := 4) (oi := { dst := some 83, op := Go.Op.binOp Go.BinOp.lss 3 (Go.Operand.tmp 82) (Go.Operand.const (Go.Value.int Go.IntKind.i64 0)) 3, type := 4, pos := "law.go:121", after := #[{ on := 3, ground := Go.Ground.data }], guard := none }) (v := ?v54) rfl (by kernel_rfl) (by kernel_rfl) (by kernel_rfl) (fun _ _ _ h => h) (Or.inl ⟨by kernel_rfl, ?h54⟩) (by assumption) ?r54
                case h54 => (intro w hSw; (try dsimp only at hSw); go_simp; try with_reducible rfl)
                try simp only [Act.put, List.setIfInBounds_toArray, List.set_cons_zero, List.set_cons_succ]
                refine wpAnyH_take (i := 5) (oi := { dst := some 84, op := Go.Op.move (Go.Operand.tmp 83), type := 4, pos := "law.go:121", after := #[{ on := 4, ground := Go.Ground.data }], guard := none }) (v := ?v55) rfl (by kernel_rfl) (by kernel_rfl) (by kernel_rfl) (fun _ _ _ h => h) (Or.inl ⟨by kernel_rfl, ?h55⟩) (by assumption) ?r55
                case h55 => (intro w hSw; (try dsimp only at hSw); go_simp; try with_reducible rfl)
                try simp only [Act.put, List.setIfInBounds_toArray, List.set_cons_zero, List.set_cons_succ]
                refine wpAnyH_take (i := 6) (oi := { dst := some 85, op := Go.Op.move (Go.Operand.tmp 8), type := 32, pos := "law.go:121", after := #[{ on := 5, ground := Go.Ground.guard }], guard := some (5, false) }) (v := ?v56) rfl (by kernel_rfl) (by kernel_rfl) (by kernel_rfl) (fun _ _ _ h => h) (Or.inl ⟨by kernel_rfl, ?h56⟩) (by assumption) ?r56
                case h56 => (intro w hSw; (try dsimp only at hSw); go_simp; try with_reducible rfl)
                try simp only [Act.put, List.setIfInBounds_toArray, List.set_cons_zero, List.set_cons_succ]
                refine wpAnyH_take (i := 7) (oi := { dst := some 86, op := Go.Op.move (Go.Operand.tmp 9), type := 3, pos := "law.go:121", after := #[{ on := 5, ground := Go.Ground.guard }], guard := some (5, false) }) (v := ?v57) rfl (by kernel_rfl) (by kernel_rfl) (by kernel_rfl) (fun _ _ _ h => h) (Or.inl ⟨by kernel_rfl, ?h57⟩) (by assumption) ?r57
                case h57 => (intro w hSw; (try dsimp only at hSw); go_simp; try with_reducible rfl)
                try simp only [Act.put, List.setIfInBounds_toArray, List.set_cons_zero, List.set_cons_succ]
                refine wpAnyH_take (i := 8) (oi := { dst := some 87, op := Go.Op.indexAddr 32 (Go.Operand.tmp 85) (Go.Operand.tmp 86), type := 0, pos := "law.go:121", after := #[{ on := 6, ground := Go.Ground.data }, { on := 7, ground := Go.Ground.data }, { on := 5, ground := Go.Ground.guard }], guard := some (5, false) }) (v := ?v58) rfl (by kernel_rfl) (by kernel_rfl) (by kernel_rfl) (fun _ _ _ h => h) (Or.inl ⟨by kernel_rfl, ?h58⟩) (by assumption) ?r58
                case h58 => (intro w hSw; (try dsimp only at hSw); go_simp; try with_reducible rfl)
                try simp only [Act.put, List.setIfInBounds_toArray, List.set_cons_zero, List.set_cons_succ]
                refine wpAnyH_take (i := 9) (oi := { dst := some 88, op := Go.Op.load 3 (Go.Operand.tmp 87), type := 3, pos := "law.go:121", after := #[{ on := 8, ground := Go.Ground.data }, { on := 5, ground := Go.Ground.guard }], guard := some (5, false) }) (v := ?v59) rfl (by kernel_rfl) (by kernel_rfl) (by kernel_rfl) (fun _ _ _ h => h) (Or.inl ⟨by kernel_rfl, ?h59⟩) (by assumption) ?r59
                case h59 => (intro w hSw; (try dsimp only at hSw); go_simp; try with_reducible rfl)
                try simp only [Act.put, List.setIfInBounds_toArray, List.set_cons_zero, List.set_cons_succ]
                refine wpAnyH_take (i := 10) (oi := { dst := some 89, op := Go.Op.fieldAddr 26 (Go.Operand.tmp 1) 3, type := 0, pos := "law.go:121", after := #[{ on := 5, ground := Go.Ground.guard }], guard := some (5, false) }) (v := ?v60) rfl (by kernel_rfl) (by kernel_rfl) (by kernel_rfl) (fun _ _ _ h => h) (Or.inl ⟨by kernel_rfl, ?h60⟩) (by assumption) ?r60
                case h60 => (intro w hSw; (try dsimp only at hSw); go_simp; try with_reducible rfl)
                try simp only [Act.put, List.setIfInBounds_toArray, List.set_cons_zero, List.set_cons_succ]
                refine wpAnyH_take (i := 11) (oi := { dst := some 90, op := Go.Op.load 24 (Go.Operand.tmp 89), type := 24, pos := "law.go:121", after := #[{ on := 10, ground := Go.Ground.data }, { on := 5, ground := Go.Ground.guard }], guard := some (5, false) }) (v := ?v61) rfl (by kernel_rfl) (by kernel_rfl) (by kernel_rfl) (fun _ _ _ h => h) (Or.inl ⟨by kernel_rfl, ?h61⟩) (by assumption) ?r61
                case h61 => (intro w hSw; (try dsimp only at hSw); go_simp; try with_reducible rfl)
                try simp only [Act.put, List.setIfInBounds_toArray, List.set_cons_zero, List.set_cons_succ]
                refine wpAnyH_take (i := 12) (oi := { dst := some 91, op := Go.Op.call { callee := Go.Callee.builtin Go.Builtin.len, args := #[Go.Operand.tmp 90], argTypes := #[24] }, type := 3, pos := "law.go:121", after := #[{ on := 11, ground := Go.Ground.data }, { on := 5, ground := Go.Ground.guard }], guard := some (5, false) }) (v := ?v62) rfl (by kernel_rfl) (by kernel_rfl) (by kernel_rfl) (fun _ _ _ h => h) (Or.inl ⟨by kernel_rfl, ?h62⟩) (by assumption) ?r62
                case h62 => (intro w hSw; (try dsimp only at hSw); go_simp; try with_reducible rfl)
                try simp only [Act.put, List.setIfInBounds_toArray, List.set_cons_zero, List.set_cons_succ]
                refine wpAnyH_take (i := 13) (oi := { dst := some 92, op := Go.Op.binOp Go.BinOp.geq 3 (Go.Operand.tmp 88) (Go.Operand.tmp 91) 3, type := 4, pos := "law.go:121", after := #[{ on := 9, ground := Go.Ground.data }, { on := 12, ground := Go.Ground.data }, { on := 5, ground := Go.Ground.guard }], guard := some (5, false) }) (v := ?v63) rfl (by kernel_rfl) (by kernel_rfl) (by kernel_rfl) (fun _ _ _ h => h) (Or.inl ⟨by kernel_rfl, ?h63⟩) (by assumption) ?r63
                case h63 => (intro w hSw; (try dsimp only at hSw); go_simp; try with_reducible rfl)
                try simp only [Act.put, List.setIfInBounds_toArray, List.set_cons_zero, List.set_cons_succ]
                refine wpAnyH_take (i := 14) (oi := { dst := some 93, op := Go.Op.pick (Go.Operand.tmp 84) (Go.Operand.const (Go.Value.bool true)) (Go.Operand.tmp 92), type := 4, pos := "law.go:121", after := #[{ on := 5, ground := Go.Ground.data }, { on := 13, ground := Go.Ground.data }], guard := none }) (v := ?v64) rfl (by kernel_rfl) (by kernel_rfl) (by kernel_rfl) (fun _ _ _ h => h) (Or.inl ⟨by kernel_rfl, ?h64⟩) (by assumption) ?r64
                case h64 => (intro w hSw; (try dsimp only at hSw); go_simp; try with_reducible rfl)
                try simp only [Act.put, List.setIfInBounds_toArray, List.set_cons_zero, List.set_cons_succ]
                refine wpAnyH_take (i := 15) (oi := { dst := some 94, op := Go.Op.move (Go.Operand.tmp 93), type := 4, pos := "law.go:121", after := #[{ on := 14, ground := Go.Ground.data }, { on := 5, ground := Go.Ground.chain }], guard := none }) (v := ?v65) rfl (by kernel_rfl) (by kernel_rfl) (by kernel_rfl) (fun _ _ _ h => h) (Or.inl ⟨by kernel_rfl, ?h65⟩) (by assumption) ?r65
                case h65 => (intro w hSw; (try dsimp only at hSw); go_simp; try with_reducible rfl)
                try simp only [Act.put, List.setIfInBounds_toArray, List.set_cons_zero, List.set_cons_succ]
                refine wpAnyH_take (i := 16) (oi := { dst := some 95, op := Go.Op.fieldAddr 26 (Go.Operand.tmp 1) 3, type := 0, pos := "law.go:121", after := #[{ on := 15, ground := Go.Ground.guard }], guard := some (15, false) }) (v := ?v66) rfl (by kernel_rfl) (by kernel_rfl) (by kernel_rfl) (fun _ _ _ h => h) (Or.inl ⟨by kernel_rfl, ?h66⟩) (by assumption) ?r66
                case h66 => (intro w hSw; (try dsimp only at hSw); go_simp; try with_reducible rfl)
                try simp only [Act.put, List.setIfInBounds_toArray, List.set_cons_zero, List.set_cons_succ]
                refine wpAnyH_take (i := 17) (oi := { dst := some 96, op := Go.Op.load 24 (Go.Operand.tmp 95), type := 24, pos := "law.go:121", after := #[{ on := 16, ground := Go.Ground.data }, { on := 15, ground := Go.Ground.guard }], guard := some (15, false) }) (v := ?v67) rfl (by kernel_rfl) (by kernel_rfl) (by kernel_rfl) (fun _ _ _ h => h) (Or.inl ⟨by kernel_rfl, ?h67⟩) (by assumption) ?r67
                case h67 => (intro w hSw; (try dsimp only at hSw); go_simp; try with_reducible rfl)
                try simp only [Act.put, List.setIfInBounds_toArray, List.set_cons_zero, List.set_cons_succ]
                refine wpAnyH_take (i := 18) (oi := { dst := some 97, op := Go.Op.move (Go.Operand.tmp 8), type := 32, pos := "law.go:121", after := #[{ on := 15, ground := Go.Ground.guard }], guard := some (15, false) }) (v := ?v68) rfl (by kernel_rfl) (by kernel_rfl) (by kernel_rfl) (fun _ _ _ h => h) (Or.inl ⟨by kernel_rfl, ?h68⟩) (by assumption) ?r68
                case h68 => (intro w hSw; (try dsimp only at hSw); go_simp; try with_reducible rfl)
                try simp only [Act.put, List.setIfInBounds_toArray, List.set_cons_zero, List.set_cons_succ]
                refine wpAnyH_take (i := 19) (oi := { dst := some 98, op := Go.Op.move (Go.Operand.tmp 9), type := 3, pos := "law.go:121", after := #[{ on := 15, ground := Go.Ground.guard }], guard := some (15, false) }) (v := ?v69) rfl (by kernel_rfl) (by kernel_rfl) (by kernel_rfl) (fun _ _ _ h => h) (Or.inl ⟨by kernel_rfl, ?h69⟩) (by assumption) ?r69
                case h69 => (intro w hSw; (try dsimp only at hSw); go_simp; try with_reducible rfl)
                try simp only [Act.put, List.setIfInBounds_toArray, List.set_cons_zero, List.set_cons_succ]
                refine wpAnyH_take (i := 20) (oi := { dst := some 99, op := Go.Op.indexAddr 32 (Go.Operand.tmp 97) (Go.Operand.tmp 98), type := 0, pos := "law.go:121", after := #[{ on := 18, ground := Go.Ground.data }, { on := 19, ground := Go.Ground.data }, { on := 15, ground := Go.Ground.guard }], guard := some (15, false) }) (v := ?v70) rfl (by kernel_rfl) (by kernel_rfl) (by kernel_rfl) (fun _ _ _ h => h) (Or.inl ⟨by kernel_rfl, ?h70⟩) (by assumption) ?r70
                case h70 => (intro w hSw; (try dsimp only at hSw); go_simp; try with_reducible rfl)
                try simp only [Act.put, List.setIfInBounds_toArray, List.set_cons_zero, List.set_cons_succ]
                refine wpAnyH_take (i := 21) (oi := { dst := some 100, op := Go.Op.load 3 (Go.Operand.tmp 99), type := 3, pos := "law.go:121", after := #[{ on := 20, ground := Go.Ground.data }, { on := 15, ground := Go.Ground.guard }], guard := some (15, false) }) (v := ?v71) rfl (by kernel_rfl) (by kernel_rfl) (by kernel_rfl) (fun _ _ _ h => h) (Or.inl ⟨by kernel_rfl, ?h71⟩) (by assumption) ?r71
                case h71 => (intro w hSw; (try dsimp only at hSw); go_simp; try with_reducible rfl)
                try simp only [Act.put, List.setIfInBounds_toArray, List.set_cons_zero, List.set_cons_succ]
                refine wpAnyH_take (i := 22) (oi := { dst := some 101, op := Go.Op.indexAddr 24 (Go.Operand.tmp 96) (Go.Operand.tmp 100), type := 0, pos := "law.go:121", after := #[{ on := 17, ground := Go.Ground.data }, { on := 21, ground := Go.Ground.data }, { on := 15, ground := Go.Ground.guard }], guard := some (15, false) }) (v := ?v72) rfl (by kernel_rfl) (by kernel_rfl) (by kernel_rfl) (fun _ _ _ h => h) (Or.inl ⟨by kernel_rfl, ?h72⟩) (by assumption) ?r72
                case h72 => (intro w hSw; (try dsimp only at hSw); go_simp; try with_reducible rfl)
                try simp only [Act.put, List.setIfInBounds_toArray, List.set_cons_zero, List.set_cons_succ]
                refine wpAnyH_take (i := 23) (oi := { dst := some 102, op := Go.Op.fieldAddr 52 (Go.Operand.tmp 101) 0, type := 0, pos := "law.go:121", after := #[{ on := 22, ground := Go.Ground.data }, { on := 15, ground := Go.Ground.guard }], guard := some (15, false) }) (v := ?v73) rfl (by kernel_rfl) (by kernel_rfl) (by kernel_rfl) (fun _ _ _ h => h) (Or.inl ⟨by kernel_rfl, ?h73⟩) (by assumption) ?r73
                case h73 => (intro w hSw; (try dsimp only at hSw); go_simp; try with_reducible rfl)
                try simp only [Act.put, List.setIfInBounds_toArray, List.set_cons_zero, List.set_cons_succ]
                refine wpAnyH_take (i := 24) (oi := { dst := some 103, op := Go.Op.load 3 (Go.Operand.tmp 102), type := 3, pos := "law.go:121", after := #[{ on := 23, ground := Go.Ground.data }, { on := 15, ground := Go.Ground.guard }], guard := some (15, false) }) (v := ?v74) rfl (by kernel_rfl) (by kernel_rfl) (by kernel_rfl) (fun _ _ _ h => h) (Or.inl ⟨by kernel_rfl, ?h74⟩) (by assumption) ?r74
                case h74 => (intro w hSw; (try dsimp only at hSw); go_simp; try with_reducible rfl)
                try simp only [Act.put, List.setIfInBounds_toArray, List.set_cons_zero, List.set_cons_succ]
                refine wpAnyH_take (i := 25) (oi := { dst := some 104, op := Go.Op.move (Go.Operand.tmp 7), type := 3, pos := "law.go:121", after := #[{ on := 15, ground := Go.Ground.guard }], guard := some (15, false) }) (v := ?v75) rfl (by kernel_rfl) (by kernel_rfl) (by kernel_rfl) (fun _ _ _ h => h) (Or.inl ⟨by kernel_rfl, ?h75⟩) (by assumption) ?r75
                case h75 => (intro w hSw; (try dsimp only at hSw); go_simp; try with_reducible rfl)
                try simp only [Act.put, List.setIfInBounds_toArray, List.set_cons_zero, List.set_cons_succ]
                refine wpAnyH_take (i := 26) (oi := { dst := some 105, op := Go.Op.binOp Go.BinOp.neq 3 (Go.Operand.tmp 103) (Go.Operand.tmp 104) 3, type := 4, pos := "law.go:121", after := #[{ on := 24, ground := Go.Ground.data }, { on := 25, ground := Go.Ground.data }, { on := 15, ground := Go.Ground.guard }], guard := some (15, false) }) (v := ?v76) rfl (by kernel_rfl) (by kernel_rfl) (by kernel_rfl) (fun _ _ _ h => h) (Or.inl ⟨by kernel_rfl, ?h76⟩) (by assumption) ?r76
                case h76 => (intro w hSw; (try dsimp only at hSw); go_simp; try with_reducible rfl)
                try simp only [Act.put, List.setIfInBounds_toArray, List.set_cons_zero, List.set_cons_succ]
                refine wpAnyH_take (i := 27) (oi := { dst := some 106, op := Go.Op.pick (Go.Operand.tmp 94) (Go.Operand.const (Go.Value.bool true)) (Go.Operand.tmp 105), type := 4, pos := "law.go:121", after := #[{ on := 15, ground := Go.Ground.data }, { on := 26, ground := Go.Ground.data }], guard := none }) (v := ?v77) rfl (by kernel_rfl) (by kernel_rfl) (by kernel_rfl) (fun _ _ _ h => h) (Or.inl ⟨by kernel_rfl, ?h77⟩) (by assumption) ?r77
                case h77 => (intro w hSw; (try dsimp only at hSw); go_simp; try with_reducible rfl)
                try simp only [Act.put, List.setIfInBounds_toArray, List.set_cons_zero, List.set_cons_succ]
                refine wpAnyH_take (i := 28) (oi := { dst := some 107, op := Go.Op.move (Go.Operand.tmp 106), type := 4, pos := "law.go:121", after := #[{ on := 27, ground := Go.Ground.data }, { on := 15, ground := Go.Ground.chain }], guard := none }) (v := ?v78) rfl (by kernel_rfl) (by kernel_rfl) (by kernel_rfl) (fun _ _ _ h => h) (Or.inl ⟨by kernel_rfl, ?h78⟩) (by assumption) ?r78
                case h78 => (intro w hSw; (try dsimp only at hSw); go_simp; try with_reducible rfl)
                try simp only [Act.put, List.setIfInBounds_toArray, List.set_cons_zero, List.set_cons_succ]
                refine wpAnyH_take (i := 29) (oi := { dst := some 108, op := Go.Op.move (Go.Operand.tmp 3), type := 50, pos := "law.go:121", after := #[{ on := 28, ground := Go.Ground.guard }], guard := some (28, false) }) (v := ?v79) rfl (by kernel_rfl) (by kernel_rfl) (by kernel_rfl) (fun _ _ _ h => h) (Or.inl ⟨by kernel_rfl, ?h79⟩) (by assumption) ?r79
                case h79 => (intro w hSw; (try dsimp only at hSw); go_simp; try with_reducible rfl)
                try simp only [Act.put, List.setIfInBounds_toArray, List.set_cons_zero, List.set_cons_succ]
                refine wpAnyH_take (i := 30) (oi := { dst := some 109, op := Go.Op.move (Go.Operand.tmp 7), type := 3, pos := "law.go:121", after := #[{ on := 28, ground := Go.Ground.guard }], guard := some (28, false) }) (v := ?v80) rfl (by kernel_rfl) (by kernel_rfl) (by kernel_rfl) (fun _ _ _ h => h) (Or.inl ⟨by kernel_rfl, ?h80⟩) (by assumption) ?r80
                case h80 => (intro w hSw; (try dsimp only at hSw); go_simp; try with_reducible rfl)
                try simp only [Act.put, List.setIfInBounds_toArray, List.set_cons_zero, List.set_cons_succ]
                refine wpAnyH_take (i := 31) (oi := { dst := some 110, op := Go.Op.indexAddr 50 (Go.Operand.tmp 108) (Go.Operand.tmp 109), type := 0, pos := "law.go:121", after := #[{ on := 29, ground := Go.Ground.data }, { on := 30, ground := Go.Ground.data }, { on := 28, ground := Go.Ground.guard }], guard := some (28, false) }) (v := ?v81) rfl (by kernel_rfl) (by kernel_rfl) (by kernel_rfl) (fun _ _ _ h => h) (Or.inl ⟨by kernel_rfl, ?h81⟩) (by assumption) ?r81
                case h81 => (intro w hSw; (try dsimp only at hSw); go_simp; try with_reducible rfl)
                try simp only [Act.put, List.setIfInBounds_toArray, List.set_cons_zero, List.set_cons_succ]
                refine wpAnyH_take (i := 32) (oi := { dst := some 111, op := Go.Op.load 4 (Go.Operand.tmp 110), type := 4, pos := "law.go:121", after := #[{ on := 31, ground := Go.Ground.data }, { on := 28, ground := Go.Ground.guard }], guard := some (28, false) }) (v := ?v82) rfl (by kernel_rfl) (by kernel_rfl) (by kernel_rfl) (fun _ _ _ h => h) (Or.inl ⟨by kernel_rfl, ?h82⟩) (by assumption) ?r82
                case h82 => (intro w hSw; (try dsimp only at hSw); go_simp; try with_reducible rfl)
                try simp only [Act.put, List.setIfInBounds_toArray, List.set_cons_zero, List.set_cons_succ]
                refine wpAnyH_take (i := 33) (oi := { dst := some 112, op := Go.Op.move (Go.Operand.tmp 111), type := 4, pos := "law.go:121", after := #[{ on := 32, ground := Go.Ground.data }, { on := 28, ground := Go.Ground.chain }, { on := 28, ground := Go.Ground.guard }], guard := some (28, false) }) (v := ?v83) rfl (by kernel_rfl) (by kernel_rfl) (by kernel_rfl) (fun _ _ _ h => h) (Or.inl ⟨by kernel_rfl, ?h83⟩) (by assumption) ?r83
                case h83 => (intro w hSw; (try dsimp only at hSw); go_simp; try with_reducible rfl)
                try simp only [Act.put, List.setIfInBounds_toArray, List.set_cons_zero, List.set_cons_succ]
                refine wpAnyH_take (i := 34) (oi := { dst := some 113, op := Go.Op.move (Go.Operand.tmp 3), type := 50, pos := "law.go:121", after := #[{ on := 33, ground := Go.Ground.guard }], guard := some (33, true) }) (v := ?v84) rfl (by kernel_rfl) (by kernel_rfl) (by kernel_rfl) (fun _ _ _ h => h) (Or.inl ⟨by kernel_rfl, ?h84⟩) (by assumption) ?r84
                case h84 => (intro w hSw; (try dsimp only at hSw); go_simp; try with_reducible rfl)
                try simp only [Act.put, List.setIfInBounds_toArray, List.set_cons_zero, List.set_cons_succ]
                refine wpAnyH_take (i := 35) (oi := { dst := some 114, op := Go.Op.fieldAddr 26 (Go.Operand.tmp 1) 3, type := 0, pos := "law.go:121", after := #[{ on := 33, ground := Go.Ground.guard }], guard := some (33, true) }) (v := ?v85) rfl (by kernel_rfl) (by kernel_rfl) (by kernel_rfl) (fun _ _ _ h => h) (Or.inl ⟨by kernel_rfl, ?h85⟩) (by assumption) ?r85
                case h85 => (intro w hSw; (try dsimp only at hSw); go_simp; try with_reducible rfl)
                try simp only [Act.put, List.setIfInBounds_toArray, List.set_cons_zero, List.set_cons_succ]
                refine wpAnyH_take (i := 36) (oi := { dst := some 115, op := Go.Op.load 24 (Go.Operand.tmp 114), type := 24, pos := "law.go:121", after := #[{ on := 35, ground := Go.Ground.data }, { on := 33, ground := Go.Ground.guard }], guard := some (33, true) }) (v := ?v86) rfl (by kernel_rfl) (by kernel_rfl) (by kernel_rfl) (fun _ _ _ h => h) (Or.inl ⟨by kernel_rfl, ?h86⟩) (by assumption) ?r86
                case h86 => (intro w hSw; (try dsimp only at hSw); go_simp; try with_reducible rfl)
                try simp only [Act.put, List.setIfInBounds_toArray, List.set_cons_zero, List.set_cons_succ]
                refine wpAnyH_take (i := 37) (oi := { dst := some 116, op := Go.Op.move (Go.Operand.tmp 8), type := 32, pos := "law.go:121", after := #[{ on := 33, ground := Go.Ground.guard }], guard := some (33, true) }) (v := ?v87) rfl (by kernel_rfl) (by kernel_rfl) (by kernel_rfl) (fun _ _ _ h => h) (Or.inl ⟨by kernel_rfl, ?h87⟩) (by assumption) ?r87
                case h87 => (intro w hSw; (try dsimp only at hSw); go_simp; try with_reducible rfl)
                try simp only [Act.put, List.setIfInBounds_toArray, List.set_cons_zero, List.set_cons_succ]
                refine wpAnyH_take (i := 38) (oi := { dst := some 117, op := Go.Op.move (Go.Operand.tmp 9), type := 3, pos := "law.go:121", after := #[{ on := 33, ground := Go.Ground.guard }], guard := some (33, true) }) (v := ?v88) rfl (by kernel_rfl) (by kernel_rfl) (by kernel_rfl) (fun _ _ _ h => h) (Or.inl ⟨by kernel_rfl, ?h88⟩) (by assumption) ?r88
                case h88 => (intro w hSw; (try dsimp only at hSw); go_simp; try with_reducible rfl)
                try simp only [Act.put, List.setIfInBounds_toArray, List.set_cons_zero, List.set_cons_succ]
                refine wpAnyH_take (i := 39) (oi := { dst := some 118, op := Go.Op.indexAddr 32 (Go.Operand.tmp 116) (Go.Operand.tmp 117), type := 0, pos := "law.go:121", after := #[{ on := 37, ground := Go.Ground.data }, { on := 38, ground := Go.Ground.data }, { on := 33, ground := Go.Ground.guard }], guard := some (33, true) }) (v := ?v89) rfl (by kernel_rfl) (by kernel_rfl) (by kernel_rfl) (fun _ _ _ h => h) (Or.inl ⟨by kernel_rfl, ?h89⟩) (by assumption) ?r89
                case h89 => (intro w hSw; (try dsimp only at hSw); go_simp; try with_reducible rfl)
                try simp only [Act.put, List.setIfInBounds_toArray, List.set_cons_zero, List.set_cons_succ]
                refine wpAnyH_take (i := 40) (oi := { dst := some 119, op := Go.Op.load 3 (Go.Operand.tmp 118), type := 3, pos := "law.go:121", after := #[{ on := 39, ground := Go.Ground.data }, { on := 33, ground := Go.Ground.guard }], guard := some (33, true) }) (v := ?v90) rfl (by kernel_rfl) (by kernel_rfl) (by kernel_rfl) (fun _ _ _ h => h) (Or.inl ⟨by kernel_rfl, ?h90⟩) (by assumption) ?r90
                case h90 => (intro w hSw; (try dsimp only at hSw); go_simp; try with_reducible rfl)
                try simp only [Act.put, List.setIfInBounds_toArray, List.set_cons_zero, List.set_cons_succ]
                refine wpAnyH_take (i := 41) (oi := { dst := some 120, op := Go.Op.indexAddr 24 (Go.Operand.tmp 115) (Go.Operand.tmp 119), type := 0, pos := "law.go:121", after := #[{ on := 36, ground := Go.Ground.data }, { on := 40, ground := Go.Ground.data }, { on := 33, ground := Go.Ground.guard }], guard := some (33, true) }) (v := ?v91) rfl (by kernel_rfl) (by kernel_rfl) (by kernel_rfl) (fun _ _ _ h => h) (Or.inl ⟨by kernel_rfl, ?h91⟩) (by assumption) ?r91
                case h91 => (intro w hSw; (try dsimp only at hSw); go_simp; try with_reducible rfl)
                try simp only [Act.put, List.setIfInBounds_toArray, List.set_cons_zero, List.set_cons_succ]
                refine wpAnyH_take (i := 42) (oi := { dst := some 121, op := Go.Op.fieldAddr 52 (Go.Operand.tmp 120) 1, type := 0, pos := "law.go:121", after := #[{ on := 41, ground := Go.Ground.data }, { on := 33, ground := Go.Ground.guard }], guard := some (33, true) }) (v := ?v92) rfl (by kernel_rfl) (by kernel_rfl) (by kernel_rfl) (fun _ _ _ h => h) (Or.inl ⟨by kernel_rfl, ?h92⟩) (by assumption) ?r92
                case h92 => (intro w hSw; (try dsimp only at hSw); go_simp; try with_reducible rfl)
                try simp only [Act.put, List.setIfInBounds_toArray, List.set_cons_zero, List.set_cons_succ]
                refine wpAnyH_take (i := 43) (oi := { dst := some 122, op := Go.Op.load 3 (Go.Operand.tmp 121), type := 3, pos := "law.go:121", after := #[{ on := 42, ground := Go.Ground.data }, { on := 33, ground := Go.Ground.guard }], guard := some (33, true) }) (v := ?v93) rfl (by kernel_rfl) (by kernel_rfl) (by kernel_rfl) (fun _ _ _ h => h) (Or.inl ⟨by kernel_rfl, ?h93⟩) (by assumption) ?r93
                case h93 => (intro w hSw; (try dsimp only at hSw); go_simp; try with_reducible rfl)
                try simp only [Act.put, List.setIfInBounds_toArray, List.set_cons_zero, List.set_cons_succ]
                refine wpAnyH_take (i := 44) (oi := { dst := some 123, op := Go.Op.indexAddr 50 (Go.Operand.tmp 113) (Go.Operand.tmp 122), type := 0, pos := "law.go:121", after := #[{ on := 34, ground := Go.Ground.data }, { on := 43, ground := Go.Ground.data }, { on := 33, ground := Go.Ground.guard }], guard := some (33, true) }) (v := ?v94) rfl (by kernel_rfl) (by kernel_rfl) (by kernel_rfl) (fun _ _ _ h => h) (Or.inl ⟨by kernel_rfl, ?h94⟩) (by assumption) ?r94
                case h94 => (intro w hSw; (try dsimp only at hSw); go_simp; try with_reducible rfl)
                try simp only [Act.put, List.setIfInBounds_toArray, List.set_cons_zero, List.set_cons_succ]
                refine wpAnyH_take (i := 45) (oi := { dst := some 124, op := Go.Op.load 4 (Go.Operand.tmp 123), type := 4, pos := "law.go:121", after := #[{ on := 44, ground := Go.Ground.data }, { on := 33, ground := Go.Ground.guard }], guard := some (33, true) }) (v := ?v95) rfl (by kernel_rfl) (by kernel_rfl) (by kernel_rfl) (fun _ _ _ h => h) (Or.inl ⟨by kernel_rfl, ?h95⟩) (by assumption) ?r95
                case h95 => (intro w hSw; (try dsimp only at hSw); go_simp; try with_reducible rfl)
                try simp only [Act.put, List.setIfInBounds_toArray, List.set_cons_zero, List.set_cons_succ]
                refine wpAnyH_take (i := 46) (oi := { dst := some 125, op := Go.Op.unOp Go.UnOp.not 4 (Go.Operand.tmp 124), type := 4, pos := "law.go:121", after := #[{ on := 45, ground := Go.Ground.data }, { on := 33, ground := Go.Ground.guard }], guard := some (33, true) }) (v := ?v96) rfl (by kernel_rfl) (by kernel_rfl) (by kernel_rfl) (fun _ _ _ h => h) (Or.inl ⟨by kernel_rfl, ?h96⟩) (by assumption) ?r96
                case h96 => (intro w hSw; (try dsimp only at hSw); go_simp; try with_reducible rfl)
                try simp only [Act.put, List.setIfInBounds_toArray, List.set_cons_zero, List.set_cons_succ]
                refine wpAnyH_take (i := 47) (oi := { dst := some 126, op := Go.Op.pick (Go.Operand.tmp 112) (Go.Operand.tmp 125) (Go.Operand.const (Go.Value.bool false)), type := 4, pos := "law.go:121", after := #[{ on := 33, ground := Go.Ground.data }, { on := 46, ground := Go.Ground.data }, { on := 28, ground := Go.Ground.guard }], guard := some (28, false) }) (v := ?v97) rfl (by kernel_rfl) (by kernel_rfl) (by kernel_rfl) (fun _ _ _ h => h) (Or.inl ⟨by kernel_rfl, ?h97⟩) (by assumption) ?r97
                case h97 => (intro w hSw; (try dsimp only at hSw); go_simp; try with_reducible rfl)
                try simp only [Act.put, List.setIfInBounds_toArray, List.set_cons_zero, List.set_cons_succ]
                refine wpAnyH_take (i := 48) (oi := { dst := some 127, op := Go.Op.pick (Go.Operand.tmp 107) (Go.Operand.const (Go.Value.bool true)) (Go.Operand.tmp 126), type := 4, pos := "law.go:121", after := #[{ on := 28, ground := Go.Ground.data }, { on := 47, ground := Go.Ground.data }], guard := none }) (v := ?v98) rfl (by kernel_rfl) (by kernel_rfl) (by kernel_rfl) (fun _ _ _ h => h) (Or.inl ⟨by kernel_rfl, ?h98⟩) (by assumption) ?r98
                case h98 => (intro w hSw; (try dsimp only at hSw); go_simp; try with_reducible rfl)
                try simp only [Act.put, List.setIfInBounds_toArray, List.set_cons_zero, List.set_cons_succ]
                refine wpAnyH_done (by kernel_rfl) ?_ _
                go_wp2
                go_roundw
                case rel => exact ⟨m + 1, by omega, by go_num, Lib.hid hHeld⟩
                case measure => simp [intOf]; omega
            · have hmi : ¬ (m : Int) < (no : Int) := by omega
              have Lq := Lib.hid (L.out.below hW.out)
              have z0 := Lq.out.b1.cell 0
              have z1 := Lq.out.b1.cell 1
              have z2 := Lq.out.b1.cell 2
              have z3 := Lq.out.b1.cell 3
              simp at z0 z1 z2 z3
              go_wp2_with fail
              with_reducible refine (qi'.out _ _ Lq.out).mono ?_
              rintro e X7 ⟨ai, ni, ci, rfl, hO2, bX7⟩
              have hni := hO2.len
              rw [← hni] at hsum2
              have hB7 := Lib.hid (hB.out.trans ((hW.out.trans (bX7.mono hW.out.size)).mono hB.out.size))
              have hin3 := hin2.out
              rw [← hni] at hin3
              have hin4 := Lib.hid hin3
              clear hni hO2 bX7 hin3 z0 z1 z2 z3
              go_wp2
              go_roundw
              case rel => exact ⟨k + 1, by omega, by go_num, by rw [hin4.out]; go_num, hB7⟩
              case measure => simp [intOf]; omega
        · have hki : ¬ (k : Int) < (pn2 : Int) := by omega
          have hke : k = pn2 := by omega
          rw [hke, hfin.out]
          have hbel := Lib.hid L.out.bel
          clear hke
          go_wp2
          go_ret
          exact ⟨by simp, hbel.out⟩
theorem progReaches_given (pnm : ByteArray) (pa1 : Option Addr) (pn1 pc1 : Nat) (pa2 : Option Addr) (pn2 pc2 : Nat) (pa3 : Option Addr) (pn3 pc3 : Nat) (A : PD) (hA : PW A) (w : World) (ht : Tab w) (h1 : PrA w ⟨pnm, pa1, pn1, pc1, pa2, pn2, pc2, pa3, pn3, pc3⟩ A) (HL : ∀ W, Tab W → Calls Tryz.prog 8 #[] W (Gives (.bool true) W)) :
    Calls Tryz.prog 6 #[.agg #[.string pnm, .slice pa1 pn1 pc1, .slice pa2 pn2 pc2, .slice pa3 pn3 pc3]] w (Gives (.bool true) w) := by
  cases hg : bigP A
  · cases hp : progB A
    · exact preaches_no pnm pa1 pn1 pc1 pa2 pn2 pc2 pa3 pn3 pc3 A hA w ht h1 HL hg hp
    · exact preaches_ok pnm pa1 pn1 pc1 pa2 pn2 pc2 pa3 pn3 pc3 A hA w ht h1 HL hg hp
  · exact preaches_big pnm pa1 pn1 pc1 pa2 pn2 pc2 pa3 pn3 pc3 A hA w ht h1 HL hg
end Go.Proofs.YtgeliikfgnkppaaGreatDoor
