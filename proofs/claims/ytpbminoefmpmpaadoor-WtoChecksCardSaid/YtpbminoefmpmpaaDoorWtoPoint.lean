/- wto: point. (Written by gen-wto-point.py.) -/
import Derived.Test.YtpbminoefmpmpaaDoorWtoRead
import Derived.Deep.DeepCutAuto
namespace Go.Proofs.YtpbminoefmpmpaaDoor
open Go.RowKit
set_option linter.unusedVariables false
set_option linter.unusedSimpArgs false

/-- A reader, its cells and rows told one by one. -/
structure RdG (w0 : World) (B r : Nat) (cs : Array Value) (vP : Value) (n : Nat) (xs : List Value) (vS : Value) (m : Nat) (ys : List Value) (w : World) : Prop where
  blk : Holds w r 58 cs
  rp : w.ownsRow B 3 1 vP n xs
  rz : w.ownsRow B 3 1 vS m ys
  ap : ∀ x, vP.ownBlock = some x → vS.ownBlock ≠ some x
  low : r < B
  top : B ≤ w0.heap.size
  bel : BelowE [r] B w0 w
theorem RdI.g {w0 B r s p a P Zs aP aS cP cS w} (h : RdI w0 B r s p a P Zs aP aS cP cS w) : RdG w0 B r (rcells s p (.slice aP a cP) (.slice aS a cS) P a) (.slice aP a cP) a (nums .i64 (P.take a)) (.slice aS a cS) a (nums .i64 Zs) w := ⟨h.blk, h.rp, h.rz, h.ap, h.low, h.top, h.bel⟩
set_option maxRecDepth 100000 in
theorem RdG.i {w0 B r s p a P Zs aP aS cP cS w cs} (h : RdG w0 B r cs (.slice aP a cP) a (nums .i64 (P.take a)) (.slice aS a cS) a (nums .i64 Zs) w) (e : cs = rcells s p (.slice aP a cP) (.slice aS a cS) P a) : RdI w0 B r s p a P Zs aP aS cP cS w := ⟨by rw [← e]; exact h.blk, h.rp, h.rz, h.ap, h.low, h.top, h.bel⟩
theorem RdG.size {w0 B r cs vP n xs vS m ys w} (h : RdG w0 B r cs vP n xs vS m ys w) : B ≤ w.heap.size := Nat.le_trans h.top h.bel.size
theorem RdG.set {w0 B r cs vP n xs vS m ys w} (h : RdG w0 B r cs vP n xs vS m ys w) (i : Nat) (v : Value) : RdG w0 B r (cs.setIfInBounds i v) vP n xs vS m ys (w.setCell ⟨r, i, none⟩ v) := by
  have hb : BelowE [r] w.heap.size w (w.setCell ⟨r, i, none⟩ v) := (BelowE.refl _ _ _).setIn (p := ⟨r, i, none⟩) (by simp) _
  refine ⟨h.blk.set i v, own_belowE h.rp hb (fun k hk hx => ?_), own_belowE h.rz hb (fun k hk hx => ?_), h.ap, h.low, h.top, h.bel.trans (hb.mono h.size)⟩
  · have e : k = r := by simpa using hx
    have := (h.rp.lt k hk).1
    have := h.low
    omega
  · have e : k = r := by simpa using hx
    have := (h.rz.lt k hk).1
    have := h.low
    omega
theorem RdG.made {w0 B r cs vP n xs vS m ys w w'} (h : RdG w0 B r cs vP n xs vS m ys w) (hb : Below w.heap.size w w') : RdG w0 B r cs vP n xs vS m ys w' :=
  ⟨h.blk.below hb h.blk.lt, own_below h.rp hb, own_below h.rz hb, h.ap, h.low, h.top, h.bel.trans ((BelowE.of hb).mono h.size)⟩
theorem RdG.grow1 {w0 B r cs vP n xs vS m ys w w' v' n' xs'} (h : RdG w0 B r cs vP n xs vS m ys w) (hg : w.grownBy w' vP.ownBlock) (ho : w'.ownsRow 0 3 1 v' n' xs') (hb : v'.ownBlock = vP.ownBlock ∨ v'.ownBlock = some w.heap.size) : RdG w0 B r cs v' n' xs' vS m ys w' := by
  have la := h.rp.lt
  have lb := h.rz.lt
  have hlow := h.low
  refine ⟨(hg.block r h.blk.lt (fun e => by have := (la r e.symm).1; omega)).trans h.blk, own_from ho (fun k hk => ?_), h.rz.kept hg (by
    cases hu : vS.ownBlock with
    | none => exact .inl rfl
    | some x => exact .inr (fun e => h.ap x e.symm hu)), fun x hx hu => ?_, h.low, h.top, h.bel.grown hg h.size (fun k hk hl => by have := (la k hk).1; omega)⟩
  · rcases hb with e | e
    · rw [e] at hk; exact (la k hk).1
    · rw [e] at hk; obtain rfl := Option.some.inj hk; exact h.size
  · rcases hb with e | e
    · rw [e] at hx; exact h.ap x hx hu
    · rw [e] at hx; obtain rfl := Option.some.inj hx; have := (lb _ hu).2; omega
theorem RdG.grow2 {w0 B r cs vP n xs vS m ys w w' u' m' ys'} (h : RdG w0 B r cs vP n xs vS m ys w) (hg : w.grownBy w' vS.ownBlock) (ho : w'.ownsRow 0 3 1 u' m' ys') (hb : u'.ownBlock = vS.ownBlock ∨ u'.ownBlock = some w.heap.size) : RdG w0 B r cs vP n xs u' m' ys' w' := by
  have la := h.rp.lt
  have lb := h.rz.lt
  have hlow := h.low
  refine ⟨(hg.block r h.blk.lt (fun e => by have := (lb r e.symm).1; omega)).trans h.blk, h.rp.kept hg (by
    cases hv : vP.ownBlock with
    | none => exact .inl rfl
    | some x => exact .inr (fun e => h.ap x hv e.symm)), own_from ho (fun k hk => ?_), fun x hx hu => ?_, h.low, h.top, h.bel.grown hg h.size (fun k hk hl => by have := (lb k hk).1; omega)⟩
  · rcases hb with e | e
    · rw [e] at hk; exact (lb k hk).1
    · rw [e] at hk; obtain rfl := Option.some.inj hk; exact h.size
  · rcases hb with e | e
    · rw [e] at hu; exact h.ap x hx hu
    · rw [e] at hu; obtain rfl := Option.some.inj hu; have := (la _ hx).2; omega
/-- Where a reader is, as a loop's measure has it. -/
def placeOf (r : Nat) (w : World) : Nat := match w.cell? ⟨r, 1, none⟩ with | some (.int _ n) => n.toNat | _ => 0
theorem RdI.place {w0 B r s p a P Zs aP aS cP cS w} (h : RdI w0 B r s p a P Zs aP aS cP cS w) : placeOf r w = p := by
  unfold placeOf
  rw [(h.blk.cell 1).trans (rc1 _ _ _ _ _ _)]
  simp
theorem str_slice {s : ByteArray} {p : Nat} {D l : List UInt8} (h : s.data.toList.drop p = D ++ l) (hp : p ≤ s.size) (hs : s.size ≤ 100000) (q : Nat) (hq : q = p + D.length) (W : World) : (Instr.slice 9 (.string s) (some (.int .i64 (p : Nat))) (some (.int .i64 (q : Nat))) none).run Tryd.prog W = .ok (.string (strB D)) W := by
  subst hq
  have hsz := size_of h hp
  rw [← extract_is h hp]
  have q := run_slice_string (P := Tryd.prog) W 9 s .i64 .i64 ((p : Nat) : Int) ((p + D.length : Nat) : Int) Tryd.underlying9 (by omega) (by omega) (by omega)
  rw [Int.toNat_natCast, Int.toNat_natCast] at q
  exact q
set_option maxRecDepth 100000 in
set_option maxHeartbeats 8000000 in
theorem point_bad (w0 : World) (B r : Nat) (s : ByteArray) (p a : Nat) (P Zs : List Int) (aP aS : Option Addr) (cP cS : Nat) (w : World) (h : RdI w0 B r s p a P Zs aP aS cP cS w) (x : Nat) (hx : x < 128) (l : List UInt8) (hc : s.data.toList.drop p = digP x ++ l) (hl : noDig l) (hs : s.size ≤ 100000) (hps : p ≤ s.size) (hin : (P.take a).contains (x : Int) = true) :
    Calls Tryd.prog 45 #[.pointer (some ⟨r, 0, none⟩)] w (PanE p w0 B r) := by
  obtain ⟨i0, hi, hz0, hz1, hz2⟩ := info_parts infoInt
  have k1 := (h.blk.cell 1).trans (rc1 _ _ _ _ _ _)
  have H := Lib.hid h
  have hC := Lib.hid hc
  have hL := Lib.hid hl
  have hsz : p + (digP (x : Int)).length ≤ s.size := by have := size_of hc hps; omega
  have hD0 := digP_ne (x : Int)
  have hDl := digP_len (p := (x : Int)) (by omega)
  have hpd := parse_dig (p := (x : Int)) (by omega)
  have hpar := Lib.hid (fun W => parse_any (strB (digP x)) (by rw [strB_size]; omega) W)
  rw [show (strB (digP (x : Int))).data.toList = digP x from by simp [strB], hpd.1, hpd.2] at hpar
  have hdi := Lib.hid (fun j hj => dig_in (p := (x : Int)) (j := j) hj)
  have hdf := Lib.hid (dig_first (p := (x : Int)))
  have hslice := Lib.hid (fun q hq W => str_slice hc hps hs q hq W)
  have hsi : ((s.size : Nat) : Int) ≤ 100000 := by omega
  have hpi : (p : Int) ≤ ((s.size : Nat) : Int) := by omega
  have hb1 : 1 ≤ (digP (x : Int)).length := by
    cases hq : digP (x : Int) with
    | nil => exact absurd hq hD0
    | cons c l => simp
  have hin' := Lib.hid hin
  clear hin
  clear h hc hl hD0 hpd
  generalize hDD : digP (x : Int) = D at *
  have hDD' := Lib.hid hDD
  clear hDD
  go_enter Tryd.func45, Tryd.ntmps45
  go_wp2
  clear k1
  go_loopw [] (fun wr => ∃ q : Nat, p ≤ q ∧ q ≤ p + D.length ∧ Hid (RdI w0 B r s q a P Zs aP aS cP cS wr)) (fun wr => s.size - placeOf r wr)
  case atStart => exact ⟨p, Nat.le_refl _, by omega, H⟩
  case round =>
    clear H
    obtain ⟨q, hq1, hq2, H⟩ := hrel
    have k0 := (H.out.blk.cell 0).trans (rc0 _ _ _ _ _ _)
    have k1 := (H.out.blk.cell 1).trans (rc1 _ _ _ _ _ _)
    have f1 := H.out.blk.free 1
    by_cases hlt : q < p + D.length
    · have hj : q - p < D.length := by omega
      have hb := drop_get hC.out hj
      rw [show p + (q - p) = q by omega] at hb
      obtain ⟨hqs, hqc, -⟩ := byte_in hb
      have hd := hdi.out (q - p) hj
      rw [← hqc] at hd
      have hqi : (q : Int) < ((s.size : Nat) : Int) := by omega
      have c1 : (48 : Int) ≤ (s[q].toNat : Int) := by omega
      have c2 : (s[q].toNat : Int) ≤ 57 := by omega
      have d1 : decide ((48 : Int) ≤ (s[q].toNat : Int)) = true := decide_eq_true c1
      have d2 : decide ((s[q].toNat : Int) ≤ 57) = true := decide_eq_true c2
      have d0 : decide ((q : Int) < ((s.size : Nat) : Int)) = true := decide_eq_true hqi
      have hmv : Hid (∀ n, RdI w0 B r s (q + 1) a P Zs aP aS cP cS ((wr.drewN n).setCell ⟨r, 1, none⟩ (.int .i64 ((q : Int) + 1)))) := Lib.hid (fun n => (H.out.drewN n).move (q + 1))
      have hpl := Lib.hid H.out.place
      by_cases hqp : q = p
      · have g0 : decide ((p : Int) < (q : Int)) = false := by simp; omega
        subst hqp
        clear hb hqc hd
        go_wp2
        go_quiet (fail)
        go_wp2
        go_roundw
        case rel => exact ⟨q + 1, by omega, by omega, Lib.hid (hmv.out nq)⟩
        case measure => rw [(hmv.out nq).place, hpl.out]; omega
      · have hp0 := drop_get hC.out (j := 0) (by omega)
        rw [Nat.add_zero] at hp0
        obtain ⟨hpp, hpc, -⟩ := byte_in hp0
        have hne := hdf.out (by omega)
        rw [← hpc] at hne
        have g0 : decide ((p : Int) < (q : Int)) = true := by simp; omega
        have g1 : ((s[p].toNat : Int) == 48) = false := by simp; omega
        have hpi2 : (p : Int) < ((s.size : Nat) : Int) := by omega
        clear hb hqc hd hp0 hpc hne
        go_wp2
        go_quiet (fail)
        go_wp2
        go_roundw
        case rel => exact ⟨q + 1, by omega, by omega, Lib.hid (hmv.out nq)⟩
        case measure => rw [(hmv.out nq).place, hpl.out]; omega
    · obtain rfl : q = p + D.length := by omega
      obtain ⟨q, hq⟩ : ∃ q, q = p + D.length := ⟨_, rfl⟩
      rw [← hq] at H k1
      have hrest := drop_all hC.out
      rw [← hq] at hrest
      have hqz : q ≤ s.size := by omega
      have hq' := Lib.hid hq
      have hsl := Lib.hid (fun W => hslice.out q hq W)
      clear hq hlt hq1 hq2
      cases l with
      | nil =>
        have hqe : q = s.size := byte_end hrest hqz
        have d0 : decide ((q : Int) < ((s.size : Nat) : Int)) = false := by simp; omega
        have d0n : decide (q < s.size) = false := by simp; omega
        have hqe' := Lib.hid hqe
        clear hqe hrest
        go_wp2
        go_quiet (fail)
        have ka0 : ∀ W, Below wr.heap.size wr W → W.cell? ⟨r, 0, none⟩ = some (.string s) := fun W hW => ((H.out.blk.below hW H.out.blk.lt).cell 0).trans (rc0 _ _ _ _ _ _)
        have ka1 : ∀ W, Below wr.heap.size wr W → W.cell? ⟨r, 1, none⟩ = some (.int .i64 q) := fun W hW => ((H.out.blk.below hW H.out.blk.lt).cell 1).trans (rc1 _ _ _ _ _ _)
        have ka0' := Lib.hid ka0
        have ka1' := Lib.hid ka1
        clear ka0 ka1 k0 k1 f1
        go_wp2
        have ka0 := ka0'.out
        have ka1 := ka1'.out
        have hs3 := hsl.out
        refine wp_drawn_on (fun W => Below wr.heap.size wr W) (by kernel_rfl) (Below.drewN (Below.drewN (Below.refl _ _) nq) 1) (fun hHeld => ?_)
        refine wpAnyH_take (i := 0) (oi := { dst := some 72, op := Go.Op.move (Go.Operand.tmp 0), type := 55, pos := "wto.go:214", after := #[], guard := none }) (v := ?v1) rfl (by kernel_rfl) (by kernel_rfl) (by kernel_rfl) (fun _ _ _ h => h) (Or.inl ⟨by kernel_rfl, ?h1⟩) (by assumption) ?r1
        case h1 => (intro w hSw; (try dsimp only at hSw); go_simp; try with_reducible rfl)
        try simp only [Act.put, List.setIfInBounds_toArray, List.set_cons_zero, List.set_cons_succ]
        refine wpAnyH_take (i := 1) (oi := { dst := some 73, op := Go.Op.nilCheck (Go.Operand.tmp 72), type := 0, pos := "wto.go:214", after := #[{ on := 0, ground := Go.Ground.data }], guard := none }) (v := ?v2) rfl (by kernel_rfl) (by kernel_rfl) (by kernel_rfl) (fun _ _ _ h => h) (Or.inl ⟨by kernel_rfl, ?h2⟩) (by assumption) ?r2
        case h2 => (intro w hSw; (try dsimp only at hSw); go_simp; try with_reducible rfl)
        try simp only [Act.put, List.setIfInBounds_toArray, List.set_cons_zero, List.set_cons_succ]
        refine wpAnyH_take (i := 2) (oi := { dst := some 74, op := Go.Op.fieldAddr 58 (Go.Operand.tmp 73) 0, type := 0, pos := "wto.go:214", after := #[{ on := 1, ground := Go.Ground.data }], guard := none }) (v := ?v3) rfl (by kernel_rfl) (by kernel_rfl) (by kernel_rfl) (fun _ _ _ h => h) (Or.inl ⟨by kernel_rfl, ?h3⟩) (by assumption) ?r3
        case h3 => (intro w hSw; (try dsimp only at hSw); go_simp; try with_reducible rfl)
        try simp only [Act.put, List.setIfInBounds_toArray, List.set_cons_zero, List.set_cons_succ]
        refine wpAnyH_take (i := 3) (oi := { dst := some 75, op := Go.Op.load 9 (Go.Operand.tmp 74), type := 9, pos := "wto.go:214", after := #[{ on := 2, ground := Go.Ground.data }], guard := none }) (v := ?v4) rfl (by kernel_rfl) (by kernel_rfl) (by kernel_rfl) (fun _ _ _ h => h) (Or.inl ⟨by kernel_rfl, ?h4⟩) (by assumption) ?r4
        case h4 => (intro w hSw; (try dsimp only at hSw); go_simp; try with_reducible rfl)
        try simp only [Act.put, List.setIfInBounds_toArray, List.set_cons_zero, List.set_cons_succ]
        refine wpAnyH_take (i := 4) (oi := { dst := some 76, op := Go.Op.move (Go.Operand.tmp 2), type := 3, pos := "wto.go:214", after := #[], guard := none }) (v := ?v5) rfl (by kernel_rfl) (by kernel_rfl) (by kernel_rfl) (fun _ _ _ h => h) (Or.inl ⟨by kernel_rfl, ?h5⟩) (by assumption) ?r5
        case h5 => (intro w hSw; (try dsimp only at hSw); go_simp; try with_reducible rfl)
        try simp only [Act.put, List.setIfInBounds_toArray, List.set_cons_zero, List.set_cons_succ]
        refine wpAnyH_take (i := 5) (oi := { dst := some 77, op := Go.Op.move (Go.Operand.tmp 0), type := 55, pos := "wto.go:214", after := #[], guard := none }) (v := ?v6) rfl (by kernel_rfl) (by kernel_rfl) (by kernel_rfl) (fun _ _ _ h => h) (Or.inl ⟨by kernel_rfl, ?h6⟩) (by assumption) ?r6
        case h6 => (intro w hSw; (try dsimp only at hSw); go_simp; try with_reducible rfl)
        try simp only [Act.put, List.setIfInBounds_toArray, List.set_cons_zero, List.set_cons_succ]
        refine wpAnyH_take (i := 6) (oi := { dst := some 78, op := Go.Op.nilCheck (Go.Operand.tmp 77), type := 0, pos := "wto.go:214", after := #[{ on := 5, ground := Go.Ground.data }], guard := none }) (v := ?v7) rfl (by kernel_rfl) (by kernel_rfl) (by kernel_rfl) (fun _ _ _ h => h) (Or.inl ⟨by kernel_rfl, ?h7⟩) (by assumption) ?r7
        case h7 => (intro w hSw; (try dsimp only at hSw); go_simp; try with_reducible rfl)
        try simp only [Act.put, List.setIfInBounds_toArray, List.set_cons_zero, List.set_cons_succ]
        refine wpAnyH_take (i := 7) (oi := { dst := some 79, op := Go.Op.fieldAddr 58 (Go.Operand.tmp 78) 1, type := 0, pos := "wto.go:214", after := #[{ on := 6, ground := Go.Ground.data }], guard := none }) (v := ?v8) rfl (by kernel_rfl) (by kernel_rfl) (by kernel_rfl) (fun _ _ _ h => h) (Or.inl ⟨by kernel_rfl, ?h8⟩) (by assumption) ?r8
        case h8 => (intro w hSw; (try dsimp only at hSw); go_simp; try with_reducible rfl)
        try simp only [Act.put, List.setIfInBounds_toArray, List.set_cons_zero, List.set_cons_succ]
        refine wpAnyH_take (i := 8) (oi := { dst := some 80, op := Go.Op.load 3 (Go.Operand.tmp 79), type := 3, pos := "wto.go:214", after := #[{ on := 7, ground := Go.Ground.data }], guard := none }) (v := ?v9) rfl (by kernel_rfl) (by kernel_rfl) (by kernel_rfl) (fun _ _ _ h => h) (Or.inl ⟨by kernel_rfl, ?h9⟩) (by assumption) ?r9
        case h9 => (intro w hSw; (try dsimp only at hSw); go_simp; try with_reducible rfl)
        try simp only [Act.put, List.setIfInBounds_toArray, List.set_cons_zero, List.set_cons_succ]
        refine wpAnyH_take (i := 9) (oi := { dst := some 81, op := Go.Op.slice 9 (Go.Operand.tmp 75) (some (Go.Operand.tmp 76)) (some (Go.Operand.tmp 80)) none, type := 9, pos := "wto.go:214", after := #[{ on := 3, ground := Go.Ground.data }, { on := 4, ground := Go.Ground.data }, { on := 8, ground := Go.Ground.data }], guard := none }) (v := ?v10) rfl (by kernel_rfl) (by kernel_rfl) (by kernel_rfl) (fun _ _ _ h => h) (Or.inl ⟨by kernel_rfl, ?h10⟩) (by assumption) ?r10
        case h10 => (intro w hSw; (try dsimp only at hSw); go_simp; try with_reducible rfl)
        try simp only [Act.put, List.setIfInBounds_toArray, List.set_cons_zero, List.set_cons_succ]
        refine wpAnyH_ready (rs := [10]) (by kernel_rfl) (by simp) ?_
        refine AllReadyH.cons (o := { dst := some 82, op := Go.Op.call { callee := Go.Callee.value (Go.Operand.func 50), args := #[Go.Operand.tmp 81], argTypes := #[9] }, type := 74, pos := "wto.go:214", after := #[{ on := 9, ground := Go.Ground.data }], guard := none }) rfl (fun K hK => ?_) AllReadyH.nil
        go_simp
        refine (hpar.out _).mono ?_
        rintro e u2 ⟨rfl, bq⟩
        go_simp
        refine hK.out _ _ (hHeld.trans (bq.mono hHeld.size)) (fun hHeld => ?_)
        clear hK K
        try simp only [Act.put, List.setIfInBounds_toArray, List.set_cons_zero, List.set_cons_succ]
        refine wpAnyH_take (i := 11) (oi := { dst := some 71, op := Go.Op.move (Go.Operand.tmp 82), type := 74, pos := "wto.go:214", after := #[{ on := 10, ground := Go.Ground.data }], guard := none }) (v := ?v11) rfl (by kernel_rfl) (by kernel_rfl) (by kernel_rfl) (fun _ _ _ h => h) (Or.inl ⟨by kernel_rfl, ?h11⟩) (by assumption) ?r11
        case h11 => (intro w hSw; (try dsimp only at hSw); go_simp; try with_reducible rfl)
        try simp only [Act.put, List.setIfInBounds_toArray, List.set_cons_zero, List.set_cons_succ]
        refine wpAnyH_take (i := 12) (oi := { dst := some 83, op := Go.Op.extract (Go.Operand.tmp 71) 0, type := 3, pos := "wto.go:214", after := #[{ on := 11, ground := Go.Ground.data }], guard := none }) (v := ?v12) rfl (by kernel_rfl) (by kernel_rfl) (by kernel_rfl) (fun _ _ _ h => h) (Or.inl ⟨by kernel_rfl, ?h12⟩) (by assumption) ?r12
        case h12 => (intro w hSw; (try dsimp only at hSw); go_simp; try with_reducible rfl)
        try simp only [Act.put, List.setIfInBounds_toArray, List.set_cons_zero, List.set_cons_succ]
        refine wpAnyH_take (i := 13) (oi := { dst := some 84, op := Go.Op.extract (Go.Operand.tmp 71) 1, type := 30, pos := "wto.go:214", after := #[{ on := 11, ground := Go.Ground.data }, { on := 14, ground := Go.Ground.gcOnly Go.Departure.lateStores }], guard := none }) (v := ?v13) rfl (by kernel_rfl) (by kernel_rfl) (by kernel_rfl) (fun _ _ _ h => h) (Or.inl ⟨by kernel_rfl, ?h13⟩) (by assumption) ?r13
        case h13 => (intro w hSw; (try dsimp only at hSw); go_simp; try with_reducible rfl)
        try simp only [Act.put, List.setIfInBounds_toArray, List.set_cons_zero, List.set_cons_succ]
        refine wpAnyH_take (i := 14) (oi := { dst := some 3, op := Go.Op.assign (Go.Operand.tmp 83), type := 3, pos := "wto.go:214", after := #[{ on := 12, ground := Go.Ground.data }, { on := 10, ground := Go.Ground.chain }, { on := 0, ground := Go.Ground.phase }, { on := 1, ground := Go.Ground.phase }, { on := 2, ground := Go.Ground.phase }, { on := 3, ground := Go.Ground.phase }, { on := 4, ground := Go.Ground.phase }, { on := 5, ground := Go.Ground.phase }, { on := 6, ground := Go.Ground.phase }, { on := 7, ground := Go.Ground.phase }, { on := 8, ground := Go.Ground.phase }, { on := 9, ground := Go.Ground.phase }, { on := 10, ground := Go.Ground.phase }, { on := 11, ground := Go.Ground.phase }, { on := 12, ground := Go.Ground.phase }, { on := 13, ground := Go.Ground.textOnly Go.Departure.lateStores }], guard := none }) (v := ?v14) rfl (by kernel_rfl) (by kernel_rfl) (by kernel_rfl) (fun _ _ _ h => h) (Or.inl ⟨by kernel_rfl, ?h14⟩) (by assumption) ?r14
        case h14 => (intro w hSw; (try dsimp only at hSw); go_simp; try with_reducible rfl)
        try simp only [Act.put, List.setIfInBounds_toArray, List.set_cons_zero, List.set_cons_succ]
        refine wpAnyH_take (i := 15) (oi := { dst := some 4, op := Go.Op.assign (Go.Operand.tmp 84), type := 30, pos := "wto.go:214", after := #[{ on := 13, ground := Go.Ground.data }, { on := 14, ground := Go.Ground.chain }, { on := 0, ground := Go.Ground.phase }, { on := 1, ground := Go.Ground.phase }, { on := 2, ground := Go.Ground.phase }, { on := 3, ground := Go.Ground.phase }, { on := 4, ground := Go.Ground.phase }, { on := 5, ground := Go.Ground.phase }, { on := 6, ground := Go.Ground.phase }, { on := 7, ground := Go.Ground.phase }, { on := 8, ground := Go.Ground.phase }, { on := 9, ground := Go.Ground.phase }, { on := 10, ground := Go.Ground.phase }, { on := 11, ground := Go.Ground.phase }, { on := 12, ground := Go.Ground.phase }, { on := 13, ground := Go.Ground.phase }, { on := 14, ground := Go.Ground.phase }], guard := none }) (v := ?v15) rfl (by kernel_rfl) (by kernel_rfl) (by kernel_rfl) (fun _ _ _ h => h) (Or.inl ⟨by kernel_rfl, ?h15⟩) (by assumption) ?r15
        case h15 => (intro w hSw; (try dsimp only at hSw); go_simp; try with_reducible rfl)
        try simp only [Act.put, List.setIfInBounds_toArray, List.set_cons_zero, List.set_cons_succ]
        refine wpAnyH_done (by kernel_rfl) ?_ _
        have H2 := Lib.hid (H.out.made hHeld)
        clear ka0 ka1 hs3 hHeld H hsl hpar
        have k4 := (H2.out.blk.cell (4 + x)).trans (rc4 _ _ _ _ _ _ x hx)
        rw [hin'.out] at k4
        have hxi : (x : Int) < 128 := by omega
        have hx0 : (0 : Int) ≤ (x : Int) := by omega
        have hfin := Lib.hid H2.out.bel
        clear H2
        go_wp2
        exact ⟨rfl, rfl, hfin.out⟩
      | cons c l =>
        have hcd := hL.out c rfl
        obtain ⟨hqs, hqc, -⟩ := byte_in hrest
        have hqi : (q : Int) < ((s.size : Nat) : Int) := by omega
        have d0 : decide ((q : Int) < ((s.size : Nat) : Int)) = true := decide_eq_true hqi
        by_cases c48 : 48 ≤ c.toNat
        · have c57 : ¬ c.toNat ≤ 57 := fun h => hcd ⟨c48, h⟩
          rw [← hqc] at c48 c57
          have d1 : decide ((48 : Int) ≤ (s[q].toNat : Int)) = true := by simp; omega
          have d2 : decide ((s[q].toNat : Int) ≤ 57) = false := by simp; omega
          clear hqc hrest hcd c48 c57
          go_wp2
          go_quiet (fail)
          have ka0 : ∀ W, Below wr.heap.size wr W → W.cell? ⟨r, 0, none⟩ = some (.string s) := fun W hW => ((H.out.blk.below hW H.out.blk.lt).cell 0).trans (rc0 _ _ _ _ _ _)
          have ka1 : ∀ W, Below wr.heap.size wr W → W.cell? ⟨r, 1, none⟩ = some (.int .i64 q) := fun W hW => ((H.out.blk.below hW H.out.blk.lt).cell 1).trans (rc1 _ _ _ _ _ _)
          have ka0' := Lib.hid ka0
          have ka1' := Lib.hid ka1
          clear ka0 ka1 k0 k1 f1
          go_wp2
          have ka0 := ka0'.out
          have ka1 := ka1'.out
          have hs3 := hsl.out
          refine wp_drawn_on (fun W => Below wr.heap.size wr W) (by kernel_rfl) (Below.drewN (Below.drewN (Below.refl _ _) nq) 1) (fun hHeld => ?_)
          refine wpAnyH_take (i := 0) (oi := { dst := some 72, op := Go.Op.move (Go.Operand.tmp 0), type := 55, pos := "wto.go:214", after := #[], guard := none }) (v := ?v16) rfl (by kernel_rfl) (by kernel_rfl) (by kernel_rfl) (fun _ _ _ h => h) (Or.inl ⟨by kernel_rfl, ?h16⟩) (by assumption) ?r16
          case h16 => (intro w hSw; (try dsimp only at hSw); go_simp; try with_reducible rfl)
          try simp only [Act.put, List.setIfInBounds_toArray, List.set_cons_zero, List.set_cons_succ]
          refine wpAnyH_take (i := 1) (oi := { dst := some 73, op := Go.Op.nilCheck (Go.Operand.tmp 72), type := 0, pos := "wto.go:214", after := #[{ on := 0, ground := Go.Ground.data }], guard := none }) (v := ?v17) rfl (by kernel_rfl) (by kernel_rfl) (by kernel_rfl) (fun _ _ _ h => h) (Or.inl ⟨by kernel_rfl, ?h17⟩) (by assumption) ?r17
          case h17 => (intro w hSw; (try dsimp only at hSw); go_simp; try with_reducible rfl)
          try simp only [Act.put, List.setIfInBounds_toArray, List.set_cons_zero, List.set_cons_succ]
          refine wpAnyH_take (i := 2) (oi := { dst := some 74, op := Go.Op.fieldAddr 58 (Go.Operand.tmp 73) 0, type := 0, pos := "wto.go:214", after := #[{ on := 1, ground := Go.Ground.data }], guard := none }) (v := ?v18) rfl (by kernel_rfl) (by kernel_rfl) (by kernel_rfl) (fun _ _ _ h => h) (Or.inl ⟨by kernel_rfl, ?h18⟩) (by assumption) ?r18
          case h18 => (intro w hSw; (try dsimp only at hSw); go_simp; try with_reducible rfl)
          try simp only [Act.put, List.setIfInBounds_toArray, List.set_cons_zero, List.set_cons_succ]
          refine wpAnyH_take (i := 3) (oi := { dst := some 75, op := Go.Op.load 9 (Go.Operand.tmp 74), type := 9, pos := "wto.go:214", after := #[{ on := 2, ground := Go.Ground.data }], guard := none }) (v := ?v19) rfl (by kernel_rfl) (by kernel_rfl) (by kernel_rfl) (fun _ _ _ h => h) (Or.inl ⟨by kernel_rfl, ?h19⟩) (by assumption) ?r19
          case h19 => (intro w hSw; (try dsimp only at hSw); go_simp; try with_reducible rfl)
          try simp only [Act.put, List.setIfInBounds_toArray, List.set_cons_zero, List.set_cons_succ]
          refine wpAnyH_take (i := 4) (oi := { dst := some 76, op := Go.Op.move (Go.Operand.tmp 2), type := 3, pos := "wto.go:214", after := #[], guard := none }) (v := ?v20) rfl (by kernel_rfl) (by kernel_rfl) (by kernel_rfl) (fun _ _ _ h => h) (Or.inl ⟨by kernel_rfl, ?h20⟩) (by assumption) ?r20
          case h20 => (intro w hSw; (try dsimp only at hSw); go_simp; try with_reducible rfl)
          try simp only [Act.put, List.setIfInBounds_toArray, List.set_cons_zero, List.set_cons_succ]
          refine wpAnyH_take (i := 5) (oi := { dst := some 77, op := Go.Op.move (Go.Operand.tmp 0), type := 55, pos := "wto.go:214", after := #[], guard := none }) (v := ?v21) rfl (by kernel_rfl) (by kernel_rfl) (by kernel_rfl) (fun _ _ _ h => h) (Or.inl ⟨by kernel_rfl, ?h21⟩) (by assumption) ?r21
          case h21 => (intro w hSw; (try dsimp only at hSw); go_simp; try with_reducible rfl)
          try simp only [Act.put, List.setIfInBounds_toArray, List.set_cons_zero, List.set_cons_succ]
          refine wpAnyH_take (i := 6) (oi := { dst := some 78, op := Go.Op.nilCheck (Go.Operand.tmp 77), type := 0, pos := "wto.go:214", after := #[{ on := 5, ground := Go.Ground.data }], guard := none }) (v := ?v22) rfl (by kernel_rfl) (by kernel_rfl) (by kernel_rfl) (fun _ _ _ h => h) (Or.inl ⟨by kernel_rfl, ?h22⟩) (by assumption) ?r22
          case h22 => (intro w hSw; (try dsimp only at hSw); go_simp; try with_reducible rfl)
          try simp only [Act.put, List.setIfInBounds_toArray, List.set_cons_zero, List.set_cons_succ]
          refine wpAnyH_take (i := 7) (oi := { dst := some 79, op := Go.Op.fieldAddr 58 (Go.Operand.tmp 78) 1, type := 0, pos := "wto.go:214", after := #[{ on := 6, ground := Go.Ground.data }], guard := none }) (v := ?v23) rfl (by kernel_rfl) (by kernel_rfl) (by kernel_rfl) (fun _ _ _ h => h) (Or.inl ⟨by kernel_rfl, ?h23⟩) (by assumption) ?r23
          case h23 => (intro w hSw; (try dsimp only at hSw); go_simp; try with_reducible rfl)
          try simp only [Act.put, List.setIfInBounds_toArray, List.set_cons_zero, List.set_cons_succ]
          refine wpAnyH_take (i := 8) (oi := { dst := some 80, op := Go.Op.load 3 (Go.Operand.tmp 79), type := 3, pos := "wto.go:214", after := #[{ on := 7, ground := Go.Ground.data }], guard := none }) (v := ?v24) rfl (by kernel_rfl) (by kernel_rfl) (by kernel_rfl) (fun _ _ _ h => h) (Or.inl ⟨by kernel_rfl, ?h24⟩) (by assumption) ?r24
          case h24 => (intro w hSw; (try dsimp only at hSw); go_simp; try with_reducible rfl)
          try simp only [Act.put, List.setIfInBounds_toArray, List.set_cons_zero, List.set_cons_succ]
          refine wpAnyH_take (i := 9) (oi := { dst := some 81, op := Go.Op.slice 9 (Go.Operand.tmp 75) (some (Go.Operand.tmp 76)) (some (Go.Operand.tmp 80)) none, type := 9, pos := "wto.go:214", after := #[{ on := 3, ground := Go.Ground.data }, { on := 4, ground := Go.Ground.data }, { on := 8, ground := Go.Ground.data }], guard := none }) (v := ?v25) rfl (by kernel_rfl) (by kernel_rfl) (by kernel_rfl) (fun _ _ _ h => h) (Or.inl ⟨by kernel_rfl, ?h25⟩) (by assumption) ?r25
          case h25 => (intro w hSw; (try dsimp only at hSw); go_simp; try with_reducible rfl)
          try simp only [Act.put, List.setIfInBounds_toArray, List.set_cons_zero, List.set_cons_succ]
          refine wpAnyH_ready (rs := [10]) (by kernel_rfl) (by simp) ?_
          refine AllReadyH.cons (o := { dst := some 82, op := Go.Op.call { callee := Go.Callee.value (Go.Operand.func 50), args := #[Go.Operand.tmp 81], argTypes := #[9] }, type := 74, pos := "wto.go:214", after := #[{ on := 9, ground := Go.Ground.data }], guard := none }) rfl (fun K hK => ?_) AllReadyH.nil
          go_simp
          refine (hpar.out _).mono ?_
          rintro e u2 ⟨rfl, bq⟩
          go_simp
          refine hK.out _ _ (hHeld.trans (bq.mono hHeld.size)) (fun hHeld => ?_)
          clear hK K
          try simp only [Act.put, List.setIfInBounds_toArray, List.set_cons_zero, List.set_cons_succ]
          refine wpAnyH_take (i := 11) (oi := { dst := some 71, op := Go.Op.move (Go.Operand.tmp 82), type := 74, pos := "wto.go:214", after := #[{ on := 10, ground := Go.Ground.data }], guard := none }) (v := ?v26) rfl (by kernel_rfl) (by kernel_rfl) (by kernel_rfl) (fun _ _ _ h => h) (Or.inl ⟨by kernel_rfl, ?h26⟩) (by assumption) ?r26
          case h26 => (intro w hSw; (try dsimp only at hSw); go_simp; try with_reducible rfl)
          try simp only [Act.put, List.setIfInBounds_toArray, List.set_cons_zero, List.set_cons_succ]
          refine wpAnyH_take (i := 12) (oi := { dst := some 83, op := Go.Op.extract (Go.Operand.tmp 71) 0, type := 3, pos := "wto.go:214", after := #[{ on := 11, ground := Go.Ground.data }], guard := none }) (v := ?v27) rfl (by kernel_rfl) (by kernel_rfl) (by kernel_rfl) (fun _ _ _ h => h) (Or.inl ⟨by kernel_rfl, ?h27⟩) (by assumption) ?r27
          case h27 => (intro w hSw; (try dsimp only at hSw); go_simp; try with_reducible rfl)
          try simp only [Act.put, List.setIfInBounds_toArray, List.set_cons_zero, List.set_cons_succ]
          refine wpAnyH_take (i := 13) (oi := { dst := some 84, op := Go.Op.extract (Go.Operand.tmp 71) 1, type := 30, pos := "wto.go:214", after := #[{ on := 11, ground := Go.Ground.data }, { on := 14, ground := Go.Ground.gcOnly Go.Departure.lateStores }], guard := none }) (v := ?v28) rfl (by kernel_rfl) (by kernel_rfl) (by kernel_rfl) (fun _ _ _ h => h) (Or.inl ⟨by kernel_rfl, ?h28⟩) (by assumption) ?r28
          case h28 => (intro w hSw; (try dsimp only at hSw); go_simp; try with_reducible rfl)
          try simp only [Act.put, List.setIfInBounds_toArray, List.set_cons_zero, List.set_cons_succ]
          refine wpAnyH_take (i := 14) (oi := { dst := some 3, op := Go.Op.assign (Go.Operand.tmp 83), type := 3, pos := "wto.go:214", after := #[{ on := 12, ground := Go.Ground.data }, { on := 10, ground := Go.Ground.chain }, { on := 0, ground := Go.Ground.phase }, { on := 1, ground := Go.Ground.phase }, { on := 2, ground := Go.Ground.phase }, { on := 3, ground := Go.Ground.phase }, { on := 4, ground := Go.Ground.phase }, { on := 5, ground := Go.Ground.phase }, { on := 6, ground := Go.Ground.phase }, { on := 7, ground := Go.Ground.phase }, { on := 8, ground := Go.Ground.phase }, { on := 9, ground := Go.Ground.phase }, { on := 10, ground := Go.Ground.phase }, { on := 11, ground := Go.Ground.phase }, { on := 12, ground := Go.Ground.phase }, { on := 13, ground := Go.Ground.textOnly Go.Departure.lateStores }], guard := none }) (v := ?v29) rfl (by kernel_rfl) (by kernel_rfl) (by kernel_rfl) (fun _ _ _ h => h) (Or.inl ⟨by kernel_rfl, ?h29⟩) (by assumption) ?r29
          case h29 => (intro w hSw; (try dsimp only at hSw); go_simp; try with_reducible rfl)
          try simp only [Act.put, List.setIfInBounds_toArray, List.set_cons_zero, List.set_cons_succ]
          refine wpAnyH_take (i := 15) (oi := { dst := some 4, op := Go.Op.assign (Go.Operand.tmp 84), type := 30, pos := "wto.go:214", after := #[{ on := 13, ground := Go.Ground.data }, { on := 14, ground := Go.Ground.chain }, { on := 0, ground := Go.Ground.phase }, { on := 1, ground := Go.Ground.phase }, { on := 2, ground := Go.Ground.phase }, { on := 3, ground := Go.Ground.phase }, { on := 4, ground := Go.Ground.phase }, { on := 5, ground := Go.Ground.phase }, { on := 6, ground := Go.Ground.phase }, { on := 7, ground := Go.Ground.phase }, { on := 8, ground := Go.Ground.phase }, { on := 9, ground := Go.Ground.phase }, { on := 10, ground := Go.Ground.phase }, { on := 11, ground := Go.Ground.phase }, { on := 12, ground := Go.Ground.phase }, { on := 13, ground := Go.Ground.phase }, { on := 14, ground := Go.Ground.phase }], guard := none }) (v := ?v30) rfl (by kernel_rfl) (by kernel_rfl) (by kernel_rfl) (fun _ _ _ h => h) (Or.inl ⟨by kernel_rfl, ?h30⟩) (by assumption) ?r30
          case h30 => (intro w hSw; (try dsimp only at hSw); go_simp; try with_reducible rfl)
          try simp only [Act.put, List.setIfInBounds_toArray, List.set_cons_zero, List.set_cons_succ]
          refine wpAnyH_done (by kernel_rfl) ?_ _
          have H2 := Lib.hid (H.out.made hHeld)
          clear ka0 ka1 hs3 hHeld H hsl hpar
          have k4 := (H2.out.blk.cell (4 + x)).trans (rc4 _ _ _ _ _ _ x hx)
          rw [hin'.out] at k4
          have hxi : (x : Int) < 128 := by omega
          have hx0 : (0 : Int) ≤ (x : Int) := by omega
          have hfin := Lib.hid H2.out.bel
          clear H2
          go_wp2
          exact ⟨rfl, rfl, hfin.out⟩
        · rw [← hqc] at c48
          have d1 : decide ((48 : Int) ≤ (s[q].toNat : Int)) = false := by simp; omega
          clear hqc hrest hcd c48
          go_wp2
          go_quiet (fail)
          have ka0 : ∀ W, Below wr.heap.size wr W → W.cell? ⟨r, 0, none⟩ = some (.string s) := fun W hW => ((H.out.blk.below hW H.out.blk.lt).cell 0).trans (rc0 _ _ _ _ _ _)
          have ka1 : ∀ W, Below wr.heap.size wr W → W.cell? ⟨r, 1, none⟩ = some (.int .i64 q) := fun W hW => ((H.out.blk.below hW H.out.blk.lt).cell 1).trans (rc1 _ _ _ _ _ _)
          have ka0' := Lib.hid ka0
          have ka1' := Lib.hid ka1
          clear ka0 ka1 k0 k1 f1
          go_wp2
          have ka0 := ka0'.out
          have ka1 := ka1'.out
          have hs3 := hsl.out
          refine wp_drawn_on (fun W => Below wr.heap.size wr W) (by kernel_rfl) (Below.drewN (Below.drewN (Below.refl _ _) nq) 1) (fun hHeld => ?_)
          refine wpAnyH_take (i := 0) (oi := { dst := some 72, op := Go.Op.move (Go.Operand.tmp 0), type := 55, pos := "wto.go:214", after := #[], guard := none }) (v := ?v31) rfl (by kernel_rfl) (by kernel_rfl) (by kernel_rfl) (fun _ _ _ h => h) (Or.inl ⟨by kernel_rfl, ?h31⟩) (by assumption) ?r31
          case h31 => (intro w hSw; (try dsimp only at hSw); go_simp; try with_reducible rfl)
          try simp only [Act.put, List.setIfInBounds_toArray, List.set_cons_zero, List.set_cons_succ]
          refine wpAnyH_take (i := 1) (oi := { dst := some 73, op := Go.Op.nilCheck (Go.Operand.tmp 72), type := 0, pos := "wto.go:214", after := #[{ on := 0, ground := Go.Ground.data }], guard := none }) (v := ?v32) rfl (by kernel_rfl) (by kernel_rfl) (by kernel_rfl) (fun _ _ _ h => h) (Or.inl ⟨by kernel_rfl, ?h32⟩) (by assumption) ?r32
          case h32 => (intro w hSw; (try dsimp only at hSw); go_simp; try with_reducible rfl)
          try simp only [Act.put, List.setIfInBounds_toArray, List.set_cons_zero, List.set_cons_succ]
          refine wpAnyH_take (i := 2) (oi := { dst := some 74, op := Go.Op.fieldAddr 58 (Go.Operand.tmp 73) 0, type := 0, pos := "wto.go:214", after := #[{ on := 1, ground := Go.Ground.data }], guard := none }) (v := ?v33) rfl (by kernel_rfl) (by kernel_rfl) (by kernel_rfl) (fun _ _ _ h => h) (Or.inl ⟨by kernel_rfl, ?h33⟩) (by assumption) ?r33
          case h33 => (intro w hSw; (try dsimp only at hSw); go_simp; try with_reducible rfl)
          try simp only [Act.put, List.setIfInBounds_toArray, List.set_cons_zero, List.set_cons_succ]
          refine wpAnyH_take (i := 3) (oi := { dst := some 75, op := Go.Op.load 9 (Go.Operand.tmp 74), type := 9, pos := "wto.go:214", after := #[{ on := 2, ground := Go.Ground.data }], guard := none }) (v := ?v34) rfl (by kernel_rfl) (by kernel_rfl) (by kernel_rfl) (fun _ _ _ h => h) (Or.inl ⟨by kernel_rfl, ?h34⟩) (by assumption) ?r34
          case h34 => (intro w hSw; (try dsimp only at hSw); go_simp; try with_reducible rfl)
          try simp only [Act.put, List.setIfInBounds_toArray, List.set_cons_zero, List.set_cons_succ]
          refine wpAnyH_take (i := 4) (oi := { dst := some 76, op := Go.Op.move (Go.Operand.tmp 2), type := 3, pos := "wto.go:214", after := #[], guard := none }) (v := ?v35) rfl (by kernel_rfl) (by kernel_rfl) (by kernel_rfl) (fun _ _ _ h => h) (Or.inl ⟨by kernel_rfl, ?h35⟩) (by assumption) ?r35
          case h35 => (intro w hSw; (try dsimp only at hSw); go_simp; try with_reducible rfl)
          try simp only [Act.put, List.setIfInBounds_toArray, List.set_cons_zero, List.set_cons_succ]
          refine wpAnyH_take (i := 5) (oi := { dst := some 77, op := Go.Op.move (Go.Operand.tmp 0), type := 55, pos := "wto.go:214", after := #[], guard := none }) (v := ?v36) rfl (by kernel_rfl) (by kernel_rfl) (by kernel_rfl) (fun _ _ _ h => h) (Or.inl ⟨by kernel_rfl, ?h36⟩) (by assumption) ?r36
          case h36 => (intro w hSw; (try dsimp only at hSw); go_simp; try with_reducible rfl)
          try simp only [Act.put, List.setIfInBounds_toArray, List.set_cons_zero, List.set_cons_succ]
          refine wpAnyH_take (i := 6) (oi := { dst := some 78, op := Go.Op.nilCheck (Go.Operand.tmp 77), type := 0, pos := "wto.go:214", after := #[{ on := 5, ground := Go.Ground.data }], guard := none }) (v := ?v37) rfl (by kernel_rfl) (by kernel_rfl) (by kernel_rfl) (fun _ _ _ h => h) (Or.inl ⟨by kernel_rfl, ?h37⟩) (by assumption) ?r37
          case h37 => (intro w hSw; (try dsimp only at hSw); go_simp; try with_reducible rfl)
          try simp only [Act.put, List.setIfInBounds_toArray, List.set_cons_zero, List.set_cons_succ]
          refine wpAnyH_take (i := 7) (oi := { dst := some 79, op := Go.Op.fieldAddr 58 (Go.Operand.tmp 78) 1, type := 0, pos := "wto.go:214", after := #[{ on := 6, ground := Go.Ground.data }], guard := none }) (v := ?v38) rfl (by kernel_rfl) (by kernel_rfl) (by kernel_rfl) (fun _ _ _ h => h) (Or.inl ⟨by kernel_rfl, ?h38⟩) (by assumption) ?r38
          case h38 => (intro w hSw; (try dsimp only at hSw); go_simp; try with_reducible rfl)
          try simp only [Act.put, List.setIfInBounds_toArray, List.set_cons_zero, List.set_cons_succ]
          refine wpAnyH_take (i := 8) (oi := { dst := some 80, op := Go.Op.load 3 (Go.Operand.tmp 79), type := 3, pos := "wto.go:214", after := #[{ on := 7, ground := Go.Ground.data }], guard := none }) (v := ?v39) rfl (by kernel_rfl) (by kernel_rfl) (by kernel_rfl) (fun _ _ _ h => h) (Or.inl ⟨by kernel_rfl, ?h39⟩) (by assumption) ?r39
          case h39 => (intro w hSw; (try dsimp only at hSw); go_simp; try with_reducible rfl)
          try simp only [Act.put, List.setIfInBounds_toArray, List.set_cons_zero, List.set_cons_succ]
          refine wpAnyH_take (i := 9) (oi := { dst := some 81, op := Go.Op.slice 9 (Go.Operand.tmp 75) (some (Go.Operand.tmp 76)) (some (Go.Operand.tmp 80)) none, type := 9, pos := "wto.go:214", after := #[{ on := 3, ground := Go.Ground.data }, { on := 4, ground := Go.Ground.data }, { on := 8, ground := Go.Ground.data }], guard := none }) (v := ?v40) rfl (by kernel_rfl) (by kernel_rfl) (by kernel_rfl) (fun _ _ _ h => h) (Or.inl ⟨by kernel_rfl, ?h40⟩) (by assumption) ?r40
          case h40 => (intro w hSw; (try dsimp only at hSw); go_simp; try with_reducible rfl)
          try simp only [Act.put, List.setIfInBounds_toArray, List.set_cons_zero, List.set_cons_succ]
          refine wpAnyH_ready (rs := [10]) (by kernel_rfl) (by simp) ?_
          refine AllReadyH.cons (o := { dst := some 82, op := Go.Op.call { callee := Go.Callee.value (Go.Operand.func 50), args := #[Go.Operand.tmp 81], argTypes := #[9] }, type := 74, pos := "wto.go:214", after := #[{ on := 9, ground := Go.Ground.data }], guard := none }) rfl (fun K hK => ?_) AllReadyH.nil
          go_simp
          refine (hpar.out _).mono ?_
          rintro e u2 ⟨rfl, bq⟩
          go_simp
          refine hK.out _ _ (hHeld.trans (bq.mono hHeld.size)) (fun hHeld => ?_)
          clear hK K
          try simp only [Act.put, List.setIfInBounds_toArray, List.set_cons_zero, List.set_cons_succ]
          refine wpAnyH_take (i := 11) (oi := { dst := some 71, op := Go.Op.move (Go.Operand.tmp 82), type := 74, pos := "wto.go:214", after := #[{ on := 10, ground := Go.Ground.data }], guard := none }) (v := ?v41) rfl (by kernel_rfl) (by kernel_rfl) (by kernel_rfl) (fun _ _ _ h => h) (Or.inl ⟨by kernel_rfl, ?h41⟩) (by assumption) ?r41
          case h41 => (intro w hSw; (try dsimp only at hSw); go_simp; try with_reducible rfl)
          try simp only [Act.put, List.setIfInBounds_toArray, List.set_cons_zero, List.set_cons_succ]
          refine wpAnyH_take (i := 12) (oi := { dst := some 83, op := Go.Op.extract (Go.Operand.tmp 71) 0, type := 3, pos := "wto.go:214", after := #[{ on := 11, ground := Go.Ground.data }], guard := none }) (v := ?v42) rfl (by kernel_rfl) (by kernel_rfl) (by kernel_rfl) (fun _ _ _ h => h) (Or.inl ⟨by kernel_rfl, ?h42⟩) (by assumption) ?r42
          case h42 => (intro w hSw; (try dsimp only at hSw); go_simp; try with_reducible rfl)
          try simp only [Act.put, List.setIfInBounds_toArray, List.set_cons_zero, List.set_cons_succ]
          refine wpAnyH_take (i := 13) (oi := { dst := some 84, op := Go.Op.extract (Go.Operand.tmp 71) 1, type := 30, pos := "wto.go:214", after := #[{ on := 11, ground := Go.Ground.data }, { on := 14, ground := Go.Ground.gcOnly Go.Departure.lateStores }], guard := none }) (v := ?v43) rfl (by kernel_rfl) (by kernel_rfl) (by kernel_rfl) (fun _ _ _ h => h) (Or.inl ⟨by kernel_rfl, ?h43⟩) (by assumption) ?r43
          case h43 => (intro w hSw; (try dsimp only at hSw); go_simp; try with_reducible rfl)
          try simp only [Act.put, List.setIfInBounds_toArray, List.set_cons_zero, List.set_cons_succ]
          refine wpAnyH_take (i := 14) (oi := { dst := some 3, op := Go.Op.assign (Go.Operand.tmp 83), type := 3, pos := "wto.go:214", after := #[{ on := 12, ground := Go.Ground.data }, { on := 10, ground := Go.Ground.chain }, { on := 0, ground := Go.Ground.phase }, { on := 1, ground := Go.Ground.phase }, { on := 2, ground := Go.Ground.phase }, { on := 3, ground := Go.Ground.phase }, { on := 4, ground := Go.Ground.phase }, { on := 5, ground := Go.Ground.phase }, { on := 6, ground := Go.Ground.phase }, { on := 7, ground := Go.Ground.phase }, { on := 8, ground := Go.Ground.phase }, { on := 9, ground := Go.Ground.phase }, { on := 10, ground := Go.Ground.phase }, { on := 11, ground := Go.Ground.phase }, { on := 12, ground := Go.Ground.phase }, { on := 13, ground := Go.Ground.textOnly Go.Departure.lateStores }], guard := none }) (v := ?v44) rfl (by kernel_rfl) (by kernel_rfl) (by kernel_rfl) (fun _ _ _ h => h) (Or.inl ⟨by kernel_rfl, ?h44⟩) (by assumption) ?r44
          case h44 => (intro w hSw; (try dsimp only at hSw); go_simp; try with_reducible rfl)
          try simp only [Act.put, List.setIfInBounds_toArray, List.set_cons_zero, List.set_cons_succ]
          refine wpAnyH_take (i := 15) (oi := { dst := some 4, op := Go.Op.assign (Go.Operand.tmp 84), type := 30, pos := "wto.go:214", after := #[{ on := 13, ground := Go.Ground.data }, { on := 14, ground := Go.Ground.chain }, { on := 0, ground := Go.Ground.phase }, { on := 1, ground := Go.Ground.phase }, { on := 2, ground := Go.Ground.phase }, { on := 3, ground := Go.Ground.phase }, { on := 4, ground := Go.Ground.phase }, { on := 5, ground := Go.Ground.phase }, { on := 6, ground := Go.Ground.phase }, { on := 7, ground := Go.Ground.phase }, { on := 8, ground := Go.Ground.phase }, { on := 9, ground := Go.Ground.phase }, { on := 10, ground := Go.Ground.phase }, { on := 11, ground := Go.Ground.phase }, { on := 12, ground := Go.Ground.phase }, { on := 13, ground := Go.Ground.phase }, { on := 14, ground := Go.Ground.phase }], guard := none }) (v := ?v45) rfl (by kernel_rfl) (by kernel_rfl) (by kernel_rfl) (fun _ _ _ h => h) (Or.inl ⟨by kernel_rfl, ?h45⟩) (by assumption) ?r45
          case h45 => (intro w hSw; (try dsimp only at hSw); go_simp; try with_reducible rfl)
          try simp only [Act.put, List.setIfInBounds_toArray, List.set_cons_zero, List.set_cons_succ]
          refine wpAnyH_done (by kernel_rfl) ?_ _
          have H2 := Lib.hid (H.out.made hHeld)
          clear ka0 ka1 hs3 hHeld H hsl hpar
          have k4 := (H2.out.blk.cell (4 + x)).trans (rc4 _ _ _ _ _ _ x hx)
          rw [hin'.out] at k4
          have hxi : (x : Int) < 128 := by omega
          have hx0 : (0 : Int) ≤ (x : Int) := by omega
          have hfin := Lib.hid H2.out.bel
          clear H2
          go_wp2
          exact ⟨rfl, rfl, hfin.out⟩
set_option maxRecDepth 100000 in
set_option maxHeartbeats 8000000 in
theorem point_ok (w0 : World) (B r : Nat) (s : ByteArray) (p a : Nat) (P Zs : List Int) (aP aS : Option Addr) (cP cS : Nat) (w : World) (h : RdI w0 B r s p a P Zs aP aS cP cS w) (x : Nat) (hx : x < 128) (l : List UInt8) (hc : s.data.toList.drop p = digP x ++ l) (hl : noDig l) (hs : s.size ≤ 100000) (hps : p ≤ s.size) (ha : a < P.length) (hxa : P.getD a 0 = (x : Int)) (honce : (P.take a).contains (x : Int) = false) (ha128 : a ≤ 128) :
    Calls Tryd.prog 45 #[.pointer (some ⟨r, 0, none⟩)] w (RdN w0 B r s (p + (digP x).length) (a + 1) P (Zs ++ [0])) := by
  obtain ⟨i0, hi, hz0, hz1, hz2⟩ := info_parts infoInt
  have k1 := (h.blk.cell 1).trans (rc1 _ _ _ _ _ _)
  have H := Lib.hid h
  have hC := Lib.hid hc
  have hL := Lib.hid hl
  have hsz : p + (digP (x : Int)).length ≤ s.size := by have := size_of hc hps; omega
  have hD0 := digP_ne (x : Int)
  have hDl := digP_len (p := (x : Int)) (by omega)
  have hpd := parse_dig (p := (x : Int)) (by omega)
  have hpar := Lib.hid (fun W => parse_any (strB (digP x)) (by rw [strB_size]; omega) W)
  rw [show (strB (digP (x : Int))).data.toList = digP x from by simp [strB], hpd.1, hpd.2] at hpar
  have hdi := Lib.hid (fun j hj => dig_in (p := (x : Int)) (j := j) hj)
  have hdf := Lib.hid (dig_first (p := (x : Int)))
  have hslice := Lib.hid (fun q hq W => str_slice hc hps hs q hq W)
  have hsi : ((s.size : Nat) : Int) ≤ 100000 := by omega
  have hpi : (p : Int) ≤ ((s.size : Nat) : Int) := by omega
  have hb1 : 1 ≤ (digP (x : Int)).length := by
    cases hq : digP (x : Int) with
    | nil => exact absurd hq hD0
    | cons c l => simp
  have hxa' := Lib.hid hxa
  have honce' := Lib.hid honce
  have ha' := Lib.hid ha
  have htake := Lib.hid (take_next P a ha)
  rw [hxa] at htake
  have hZl : Hid (Zs.length = a) := Lib.hid (by have := h.rz.1; simp [nums] at this; omega)
  have hPl : Hid ((P.take a).length = a) := Lib.hid (by rw [List.length_take]; omega)
  have hPl2 : Hid ((P.take (a + 1)).length = a + 1) := Lib.hid (by rw [List.length_take]; omega)
  clear hxa honce ha
  clear h hc hl hD0 hpd
  generalize hDD : digP (x : Int) = D at *
  have hDD' := Lib.hid hDD
  clear hDD
  go_enter Tryd.func45, Tryd.ntmps45
  go_wp2
  clear k1
  go_loopw [] (fun wr => ∃ q : Nat, p ≤ q ∧ q ≤ p + D.length ∧ Hid (RdI w0 B r s q a P Zs aP aS cP cS wr)) (fun wr => s.size - placeOf r wr)
  case atStart => exact ⟨p, Nat.le_refl _, by omega, H⟩
  case round =>
    clear H
    obtain ⟨q, hq1, hq2, H⟩ := hrel
    have k0 := (H.out.blk.cell 0).trans (rc0 _ _ _ _ _ _)
    have k1 := (H.out.blk.cell 1).trans (rc1 _ _ _ _ _ _)
    have f1 := H.out.blk.free 1
    by_cases hlt : q < p + D.length
    · have hj : q - p < D.length := by omega
      have hb := drop_get hC.out hj
      rw [show p + (q - p) = q by omega] at hb
      obtain ⟨hqs, hqc, -⟩ := byte_in hb
      have hd := hdi.out (q - p) hj
      rw [← hqc] at hd
      have hqi : (q : Int) < ((s.size : Nat) : Int) := by omega
      have c1 : (48 : Int) ≤ (s[q].toNat : Int) := by omega
      have c2 : (s[q].toNat : Int) ≤ 57 := by omega
      have d1 : decide ((48 : Int) ≤ (s[q].toNat : Int)) = true := decide_eq_true c1
      have d2 : decide ((s[q].toNat : Int) ≤ 57) = true := decide_eq_true c2
      have d0 : decide ((q : Int) < ((s.size : Nat) : Int)) = true := decide_eq_true hqi
      have hmv : Hid (∀ n, RdI w0 B r s (q + 1) a P Zs aP aS cP cS ((wr.drewN n).setCell ⟨r, 1, none⟩ (.int .i64 ((q : Int) + 1)))) := Lib.hid (fun n => (H.out.drewN n).move (q + 1))
      have hpl := Lib.hid H.out.place
      by_cases hqp : q = p
      · have g0 : decide ((p : Int) < (q : Int)) = false := by simp; omega
        subst hqp
        clear hb hqc hd
        go_wp2
        go_quiet (fail)
        go_wp2
        go_roundw
        case rel => exact ⟨q + 1, by omega, by omega, Lib.hid (hmv.out nq)⟩
        case measure => rw [(hmv.out nq).place, hpl.out]; omega
      · have hp0 := drop_get hC.out (j := 0) (by omega)
        rw [Nat.add_zero] at hp0
        obtain ⟨hpp, hpc, -⟩ := byte_in hp0
        have hne := hdf.out (by omega)
        rw [← hpc] at hne
        have g0 : decide ((p : Int) < (q : Int)) = true := by simp; omega
        have g1 : ((s[p].toNat : Int) == 48) = false := by simp; omega
        have hpi2 : (p : Int) < ((s.size : Nat) : Int) := by omega
        clear hb hqc hd hp0 hpc hne
        go_wp2
        go_quiet (fail)
        go_wp2
        go_roundw
        case rel => exact ⟨q + 1, by omega, by omega, Lib.hid (hmv.out nq)⟩
        case measure => rw [(hmv.out nq).place, hpl.out]; omega
    · obtain rfl : q = p + D.length := by omega
      obtain ⟨q, hq⟩ : ∃ q, q = p + D.length := ⟨_, rfl⟩
      rw [← hq] at H k1
      have hrest := drop_all hC.out
      rw [← hq] at hrest
      have hqz : q ≤ s.size := by omega
      have hq' := Lib.hid hq
      have hsl := Lib.hid (fun W => hslice.out q hq W)
      clear hq hlt hq1 hq2
      cases l with
      | nil =>
        have hqe : q = s.size := byte_end hrest hqz
        have d0 : decide ((q : Int) < ((s.size : Nat) : Int)) = false := by simp; omega
        have d0n : decide (q < s.size) = false := by simp; omega
        have hqe' := Lib.hid hqe
        clear hqe hrest
        go_wp2
        go_quiet (fail)
        have ka0 : ∀ W, Below wr.heap.size wr W → W.cell? ⟨r, 0, none⟩ = some (.string s) := fun W hW => ((H.out.blk.below hW H.out.blk.lt).cell 0).trans (rc0 _ _ _ _ _ _)
        have ka1 : ∀ W, Below wr.heap.size wr W → W.cell? ⟨r, 1, none⟩ = some (.int .i64 q) := fun W hW => ((H.out.blk.below hW H.out.blk.lt).cell 1).trans (rc1 _ _ _ _ _ _)
        have ka0' := Lib.hid ka0
        have ka1' := Lib.hid ka1
        clear ka0 ka1 k0 k1 f1
        go_wp2
        have ka0 := ka0'.out
        have ka1 := ka1'.out
        have hs3 := hsl.out
        refine wp_drawn_on (fun W => Below wr.heap.size wr W) (by kernel_rfl) (Below.drewN (Below.drewN (Below.refl _ _) nq) 1) (fun hHeld => ?_)
        refine wpAnyH_take (i := 0) (oi := { dst := some 72, op := Go.Op.move (Go.Operand.tmp 0), type := 55, pos := "wto.go:214", after := #[], guard := none }) (v := ?v46) rfl (by kernel_rfl) (by kernel_rfl) (by kernel_rfl) (fun _ _ _ h => h) (Or.inl ⟨by kernel_rfl, ?h46⟩) (by assumption) ?r46
        case h46 => (intro w hSw; (try dsimp only at hSw); go_simp; try with_reducible rfl)
        try simp only [Act.put, List.setIfInBounds_toArray, List.set_cons_zero, List.set_cons_succ]
        refine wpAnyH_take (i := 1) (oi := { dst := some 73, op := Go.Op.nilCheck (Go.Operand.tmp 72), type := 0, pos := "wto.go:214", after := #[{ on := 0, ground := Go.Ground.data }], guard := none }) (v := ?v47) rfl (by kernel_rfl) (by kernel_rfl) (by kernel_rfl) (fun _ _ _ h => h) (Or.inl ⟨by kernel_rfl, ?h47⟩) (by assumption) ?r47
        case h47 => (intro w hSw; (try dsimp only at hSw); go_simp; try with_reducible rfl)
        try simp only [Act.put, List.setIfInBounds_toArray, List.set_cons_zero, List.set_cons_succ]
        refine wpAnyH_take (i := 2) (oi := { dst := some 74, op := Go.Op.fieldAddr 58 (Go.Operand.tmp 73) 0, type := 0, pos := "wto.go:214", after := #[{ on := 1, ground := Go.Ground.data }], guard := none }) (v := ?v48) rfl (by kernel_rfl) (by kernel_rfl) (by kernel_rfl) (fun _ _ _ h => h) (Or.inl ⟨by kernel_rfl, ?h48⟩) (by assumption) ?r48
        case h48 => (intro w hSw; (try dsimp only at hSw); go_simp; try with_reducible rfl)
        try simp only [Act.put, List.setIfInBounds_toArray, List.set_cons_zero, List.set_cons_succ]
        refine wpAnyH_take (i := 3) (oi := { dst := some 75, op := Go.Op.load 9 (Go.Operand.tmp 74), type := 9, pos := "wto.go:214", after := #[{ on := 2, ground := Go.Ground.data }], guard := none }) (v := ?v49) rfl (by kernel_rfl) (by kernel_rfl) (by kernel_rfl) (fun _ _ _ h => h) (Or.inl ⟨by kernel_rfl, ?h49⟩) (by assumption) ?r49
        case h49 => (intro w hSw; (try dsimp only at hSw); go_simp; try with_reducible rfl)
        try simp only [Act.put, List.setIfInBounds_toArray, List.set_cons_zero, List.set_cons_succ]
        refine wpAnyH_take (i := 4) (oi := { dst := some 76, op := Go.Op.move (Go.Operand.tmp 2), type := 3, pos := "wto.go:214", after := #[], guard := none }) (v := ?v50) rfl (by kernel_rfl) (by kernel_rfl) (by kernel_rfl) (fun _ _ _ h => h) (Or.inl ⟨by kernel_rfl, ?h50⟩) (by assumption) ?r50
        case h50 => (intro w hSw; (try dsimp only at hSw); go_simp; try with_reducible rfl)
        try simp only [Act.put, List.setIfInBounds_toArray, List.set_cons_zero, List.set_cons_succ]
        refine wpAnyH_take (i := 5) (oi := { dst := some 77, op := Go.Op.move (Go.Operand.tmp 0), type := 55, pos := "wto.go:214", after := #[], guard := none }) (v := ?v51) rfl (by kernel_rfl) (by kernel_rfl) (by kernel_rfl) (fun _ _ _ h => h) (Or.inl ⟨by kernel_rfl, ?h51⟩) (by assumption) ?r51
        case h51 => (intro w hSw; (try dsimp only at hSw); go_simp; try with_reducible rfl)
        try simp only [Act.put, List.setIfInBounds_toArray, List.set_cons_zero, List.set_cons_succ]
        refine wpAnyH_take (i := 6) (oi := { dst := some 78, op := Go.Op.nilCheck (Go.Operand.tmp 77), type := 0, pos := "wto.go:214", after := #[{ on := 5, ground := Go.Ground.data }], guard := none }) (v := ?v52) rfl (by kernel_rfl) (by kernel_rfl) (by kernel_rfl) (fun _ _ _ h => h) (Or.inl ⟨by kernel_rfl, ?h52⟩) (by assumption) ?r52
        case h52 => (intro w hSw; (try dsimp only at hSw); go_simp; try with_reducible rfl)
        try simp only [Act.put, List.setIfInBounds_toArray, List.set_cons_zero, List.set_cons_succ]
        refine wpAnyH_take (i := 7) (oi := { dst := some 79, op := Go.Op.fieldAddr 58 (Go.Operand.tmp 78) 1, type := 0, pos := "wto.go:214", after := #[{ on := 6, ground := Go.Ground.data }], guard := none }) (v := ?v53) rfl (by kernel_rfl) (by kernel_rfl) (by kernel_rfl) (fun _ _ _ h => h) (Or.inl ⟨by kernel_rfl, ?h53⟩) (by assumption) ?r53
        case h53 => (intro w hSw; (try dsimp only at hSw); go_simp; try with_reducible rfl)
        try simp only [Act.put, List.setIfInBounds_toArray, List.set_cons_zero, List.set_cons_succ]
        refine wpAnyH_take (i := 8) (oi := { dst := some 80, op := Go.Op.load 3 (Go.Operand.tmp 79), type := 3, pos := "wto.go:214", after := #[{ on := 7, ground := Go.Ground.data }], guard := none }) (v := ?v54) rfl (by kernel_rfl) (by kernel_rfl) (by kernel_rfl) (fun _ _ _ h => h) (Or.inl ⟨by kernel_rfl, ?h54⟩) (by assumption) ?r54
        case h54 => (intro w hSw; (try dsimp only at hSw); go_simp; try with_reducible rfl)
        try simp only [Act.put, List.setIfInBounds_toArray, List.set_cons_zero, List.set_cons_succ]
        refine wpAnyH_take (i := 9) (oi := { dst := some 81, op := Go.Op.slice 9 (Go.Operand.tmp 75) (some (Go.Operand.tmp 76)) (some (Go.Operand.tmp 80)) none, type := 9, pos := "wto.go:214", after := #[{ on := 3, ground := Go.Ground.data }, { on := 4, ground := Go.Ground.data }, { on := 8, ground := Go.Ground.data }], guard := none }) (v := ?v55) rfl (by kernel_rfl) (by kernel_rfl) (by kernel_rfl) (fun _ _ _ h => h) (Or.inl ⟨by kernel_rfl, ?h55⟩) (by assumption) ?r55
        case h55 => (intro w hSw; (try dsimp only at hSw); go_simp; try with_reducible rfl)
        try simp only [Act.put, List.setIfInBounds_toArray, List.set_cons_zero, List.set_cons_succ]
        refine wpAnyH_ready (rs := [10]) (by kernel_rfl) (by simp) ?_
        refine AllReadyH.cons (o := { dst := some 82, op := Go.Op.call { callee := Go.Callee.value (Go.Operand.func 50), args := #[Go.Operand.tmp 81], argTypes := #[9] }, type := 74, pos := "wto.go:214", after := #[{ on := 9, ground := Go.Ground.data }], guard := none }) rfl (fun K hK => ?_) AllReadyH.nil
        go_simp
        refine (hpar.out _).mono ?_
        rintro e u2 ⟨rfl, bq⟩
        go_simp
        refine hK.out _ _ (hHeld.trans (bq.mono hHeld.size)) (fun hHeld => ?_)
        clear hK K
        try simp only [Act.put, List.setIfInBounds_toArray, List.set_cons_zero, List.set_cons_succ]
        refine wpAnyH_take (i := 11) (oi := { dst := some 71, op := Go.Op.move (Go.Operand.tmp 82), type := 74, pos := "wto.go:214", after := #[{ on := 10, ground := Go.Ground.data }], guard := none }) (v := ?v56) rfl (by kernel_rfl) (by kernel_rfl) (by kernel_rfl) (fun _ _ _ h => h) (Or.inl ⟨by kernel_rfl, ?h56⟩) (by assumption) ?r56
        case h56 => (intro w hSw; (try dsimp only at hSw); go_simp; try with_reducible rfl)
        try simp only [Act.put, List.setIfInBounds_toArray, List.set_cons_zero, List.set_cons_succ]
        refine wpAnyH_take (i := 12) (oi := { dst := some 83, op := Go.Op.extract (Go.Operand.tmp 71) 0, type := 3, pos := "wto.go:214", after := #[{ on := 11, ground := Go.Ground.data }], guard := none }) (v := ?v57) rfl (by kernel_rfl) (by kernel_rfl) (by kernel_rfl) (fun _ _ _ h => h) (Or.inl ⟨by kernel_rfl, ?h57⟩) (by assumption) ?r57
        case h57 => (intro w hSw; (try dsimp only at hSw); go_simp; try with_reducible rfl)
        try simp only [Act.put, List.setIfInBounds_toArray, List.set_cons_zero, List.set_cons_succ]
        refine wpAnyH_take (i := 13) (oi := { dst := some 84, op := Go.Op.extract (Go.Operand.tmp 71) 1, type := 30, pos := "wto.go:214", after := #[{ on := 11, ground := Go.Ground.data }, { on := 14, ground := Go.Ground.gcOnly Go.Departure.lateStores }], guard := none }) (v := ?v58) rfl (by kernel_rfl) (by kernel_rfl) (by kernel_rfl) (fun _ _ _ h => h) (Or.inl ⟨by kernel_rfl, ?h58⟩) (by assumption) ?r58
        case h58 => (intro w hSw; (try dsimp only at hSw); go_simp; try with_reducible rfl)
        try simp only [Act.put, List.setIfInBounds_toArray, List.set_cons_zero, List.set_cons_succ]
        refine wpAnyH_take (i := 14) (oi := { dst := some 3, op := Go.Op.assign (Go.Operand.tmp 83), type := 3, pos := "wto.go:214", after := #[{ on := 12, ground := Go.Ground.data }, { on := 10, ground := Go.Ground.chain }, { on := 0, ground := Go.Ground.phase }, { on := 1, ground := Go.Ground.phase }, { on := 2, ground := Go.Ground.phase }, { on := 3, ground := Go.Ground.phase }, { on := 4, ground := Go.Ground.phase }, { on := 5, ground := Go.Ground.phase }, { on := 6, ground := Go.Ground.phase }, { on := 7, ground := Go.Ground.phase }, { on := 8, ground := Go.Ground.phase }, { on := 9, ground := Go.Ground.phase }, { on := 10, ground := Go.Ground.phase }, { on := 11, ground := Go.Ground.phase }, { on := 12, ground := Go.Ground.phase }, { on := 13, ground := Go.Ground.textOnly Go.Departure.lateStores }], guard := none }) (v := ?v59) rfl (by kernel_rfl) (by kernel_rfl) (by kernel_rfl) (fun _ _ _ h => h) (Or.inl ⟨by kernel_rfl, ?h59⟩) (by assumption) ?r59
        case h59 => (intro w hSw; (try dsimp only at hSw); go_simp; try with_reducible rfl)
        try simp only [Act.put, List.setIfInBounds_toArray, List.set_cons_zero, List.set_cons_succ]
        refine wpAnyH_take (i := 15) (oi := { dst := some 4, op := Go.Op.assign (Go.Operand.tmp 84), type := 30, pos := "wto.go:214", after := #[{ on := 13, ground := Go.Ground.data }, { on := 14, ground := Go.Ground.chain }, { on := 0, ground := Go.Ground.phase }, { on := 1, ground := Go.Ground.phase }, { on := 2, ground := Go.Ground.phase }, { on := 3, ground := Go.Ground.phase }, { on := 4, ground := Go.Ground.phase }, { on := 5, ground := Go.Ground.phase }, { on := 6, ground := Go.Ground.phase }, { on := 7, ground := Go.Ground.phase }, { on := 8, ground := Go.Ground.phase }, { on := 9, ground := Go.Ground.phase }, { on := 10, ground := Go.Ground.phase }, { on := 11, ground := Go.Ground.phase }, { on := 12, ground := Go.Ground.phase }, { on := 13, ground := Go.Ground.phase }, { on := 14, ground := Go.Ground.phase }], guard := none }) (v := ?v60) rfl (by kernel_rfl) (by kernel_rfl) (by kernel_rfl) (fun _ _ _ h => h) (Or.inl ⟨by kernel_rfl, ?h60⟩) (by assumption) ?r60
        case h60 => (intro w hSw; (try dsimp only at hSw); go_simp; try with_reducible rfl)
        try simp only [Act.put, List.setIfInBounds_toArray, List.set_cons_zero, List.set_cons_succ]
        refine wpAnyH_done (by kernel_rfl) ?_ _
        have H2 := Lib.hid (H.out.made hHeld)
        clear ka0 ka1 hs3 hHeld H hsl hpar
        have k4 := (H2.out.blk.cell (4 + x)).trans (rc4 _ _ _ _ _ _ x hx)
        rw [honce'.out] at k4
        have f4 := H2.out.blk.free (4 + x)
        have hxi : (x : Int) < 128 := by omega
        have hx0 : (0 : Int) ≤ (x : Int) := by omega
        have G5 := H2.out.g.set (4 + x) (.bool true)
        rw [rs4 s q (.slice aP a cP) (.slice aS a cS) P a x ha'.out hx hxa'.out] at G5
        replace G5 := Lib.hid G5
        clear H2
        go_upto_region 9 with (fail)
        generalize u2.setCell ⟨r, 4 + x, none⟩ (.bool true) = w5 at *
        have k2 := (G5.out.blk.cell 2).trans (rc2 _ _ _ _ _ _)
        clear k4 f4
        go_upto_region 10 with (at_builtin; refine wpList_append_foot _ rfl (.tmp 112) (.tmp 114) 22 rfl 3 i0 (.int .i64 0) 8 Tryd.underlying22 hi hz0 hz1 hz2 rfl .i64 _ (P.take a) (by have o := own_zero (own_below G5.out.rp (box_below w5 #[.int .i64 (x : Int)] 3)); rw [hPl.out]; exact o) _ _ [(x : Int)] (sees_new .i64 w5 3 [(x : Int)] _ rfl) 1 1 rfl rfl rfl (by rw [hPl.out]; simp only [List.length_singleton]; unfold maxLen; omega) (by rw [hPl.out]; simp only [List.length_singleton]; omega) ?_; intro v' w6 hown' hgrow hblk; have G6 := (G5.out.made (box_below w5 #[.int .i64 (x : Int)] 3)).grow1 hgrow hown' hblk; rw [← htake.out] at G6; obtain ⟨a6, c6, hv6, -, -⟩ := sees_own hown'; rw [List.length_append, hPl.out, List.length_singleton] at hv6; rw [hPl2.out] at G6; subst hv6; have G6' := Lib.hid G6; have f6 := G6.blk.free 2; have k6 := (G6.blk.cell 2).trans (rc2 _ _ _ _ _ _); have k63 := (G6.blk.cell 3).trans (rc3 _ _ _ _ _ _); clear hown' hgrow hblk G6)
        have G7 := Lib.hid (G6'.out.set 2 (.slice a6 (a + 1) c6))
        rw [rs2] at G7
        generalize w6.setCell ⟨r, 2, none⟩ (.slice a6 (a + 1) c6) = w7 at *
        clear k6 k63 f6 G6' G5 k2
        have k3 := (G7.out.blk.cell 3).trans (rc3 _ _ _ _ _ _)
        go_wp2_with (at_builtin; refine wpList_append_foot _ rfl (.tmp 124) (.tmp 125) 22 rfl 3 i0 (.int .i64 0) 8 Tryd.underlying22 hi hz0 hz1 hz2 rfl .i64 _ Zs (by have o := own_zero (own_below G7.out.rz (box_below w7 #[.int .i64 0] 3)); rw [hZl.out]; exact o) _ _ [0] (sees_new .i64 w7 3 [0] _ rfl) 1 1 rfl rfl rfl (by rw [hZl.out]; simp only [List.length_singleton]; unfold maxLen; omega) (by rw [hZl.out]; simp only [List.length_singleton]; omega) ?_; intro v' w8 hown' hgrow hblk; have G8 := (G7.out.made (box_below w7 #[.int .i64 0] 3)).grow2 hgrow hown' hblk; obtain ⟨a8, c8, hv8, -, -⟩ := sees_own hown'; rw [List.length_append, hZl.out, List.length_singleton] at hv8; rw [List.length_append, hZl.out, List.length_singleton] at G8; subst hv8; have G8' := Lib.hid G8; have f8 := G8.blk.free 3; have k8 := (G8.blk.cell 3).trans (rc3 _ _ _ _ _ _); clear hown' hgrow hblk G8)
        have G9 := G8'.out.set 3 (.slice a8 (a + 1) c8)
        rw [rs3] at G9
        have hfin : Hid (RdN w0 B r s (p + D.length) (a + 1) P (Zs ++ [0]) (.returned (.tuple #[])) (w8.setCell ⟨r, 3, none⟩ (.slice a8 (a + 1) c8))) := Lib.hid ⟨rfl, a6, a8, c6, c8, by rw [← hq'.out]; exact RdG.i G9 rfl⟩
        clear G9 G8' G7 k3
        go_wp2
        go_end0
        exact hfin.out
      | cons c l =>
        have hcd := hL.out c rfl
        obtain ⟨hqs, hqc, -⟩ := byte_in hrest
        have hqi : (q : Int) < ((s.size : Nat) : Int) := by omega
        have d0 : decide ((q : Int) < ((s.size : Nat) : Int)) = true := decide_eq_true hqi
        by_cases c48 : 48 ≤ c.toNat
        · have c57 : ¬ c.toNat ≤ 57 := fun h => hcd ⟨c48, h⟩
          rw [← hqc] at c48 c57
          have d1 : decide ((48 : Int) ≤ (s[q].toNat : Int)) = true := by simp; omega
          have d2 : decide ((s[q].toNat : Int) ≤ 57) = false := by simp; omega
          clear hqc hrest hcd c48 c57
          go_wp2
          go_quiet (fail)
          have ka0 : ∀ W, Below wr.heap.size wr W → W.cell? ⟨r, 0, none⟩ = some (.string s) := fun W hW => ((H.out.blk.below hW H.out.blk.lt).cell 0).trans (rc0 _ _ _ _ _ _)
          have ka1 : ∀ W, Below wr.heap.size wr W → W.cell? ⟨r, 1, none⟩ = some (.int .i64 q) := fun W hW => ((H.out.blk.below hW H.out.blk.lt).cell 1).trans (rc1 _ _ _ _ _ _)
          have ka0' := Lib.hid ka0
          have ka1' := Lib.hid ka1
          clear ka0 ka1 k0 k1 f1
          go_wp2
          have ka0 := ka0'.out
          have ka1 := ka1'.out
          have hs3 := hsl.out
          refine wp_drawn_on (fun W => Below wr.heap.size wr W) (by kernel_rfl) (Below.drewN (Below.drewN (Below.refl _ _) nq) 1) (fun hHeld => ?_)
          refine wpAnyH_take (i := 0) (oi := { dst := some 72, op := Go.Op.move (Go.Operand.tmp 0), type := 55, pos := "wto.go:214", after := #[], guard := none }) (v := ?v61) rfl (by kernel_rfl) (by kernel_rfl) (by kernel_rfl) (fun _ _ _ h => h) (Or.inl ⟨by kernel_rfl, ?h61⟩) (by assumption) ?r61
          case h61 => (intro w hSw; (try dsimp only at hSw); go_simp; try with_reducible rfl)
          try simp only [Act.put, List.setIfInBounds_toArray, List.set_cons_zero, List.set_cons_succ]
          refine wpAnyH_take (i := 1) (oi := { dst := some 73, op := Go.Op.nilCheck (Go.Operand.tmp 72), type := 0, pos := "wto.go:214", after := #[{ on := 0, ground := Go.Ground.data }], guard := none }) (v := ?v62) rfl (by kernel_rfl) (by kernel_rfl) (by kernel_rfl) (fun _ _ _ h => h) (Or.inl ⟨by kernel_rfl, ?h62⟩) (by assumption) ?r62
          case h62 => (intro w hSw; (try dsimp only at hSw); go_simp; try with_reducible rfl)
          try simp only [Act.put, List.setIfInBounds_toArray, List.set_cons_zero, List.set_cons_succ]
          refine wpAnyH_take (i := 2) (oi := { dst := some 74, op := Go.Op.fieldAddr 58 (Go.Operand.tmp 73) 0, type := 0, pos := "wto.go:214", after := #[{ on := 1, ground := Go.Ground.data }], guard := none }) (v := ?v63) rfl (by kernel_rfl) (by kernel_rfl) (by kernel_rfl) (fun _ _ _ h => h) (Or.inl ⟨by kernel_rfl, ?h63⟩) (by assumption) ?r63
          case h63 => (intro w hSw; (try dsimp only at hSw); go_simp; try with_reducible rfl)
          try simp only [Act.put, List.setIfInBounds_toArray, List.set_cons_zero, List.set_cons_succ]
          refine wpAnyH_take (i := 3) (oi := { dst := some 75, op := Go.Op.load 9 (Go.Operand.tmp 74), type := 9, pos := "wto.go:214", after := #[{ on := 2, ground := Go.Ground.data }], guard := none }) (v := ?v64) rfl (by kernel_rfl) (by kernel_rfl) (by kernel_rfl) (fun _ _ _ h => h) (Or.inl ⟨by kernel_rfl, ?h64⟩) (by assumption) ?r64
          case h64 => (intro w hSw; (try dsimp only at hSw); go_simp; try with_reducible rfl)
          try simp only [Act.put, List.setIfInBounds_toArray, List.set_cons_zero, List.set_cons_succ]
          refine wpAnyH_take (i := 4) (oi := { dst := some 76, op := Go.Op.move (Go.Operand.tmp 2), type := 3, pos := "wto.go:214", after := #[], guard := none }) (v := ?v65) rfl (by kernel_rfl) (by kernel_rfl) (by kernel_rfl) (fun _ _ _ h => h) (Or.inl ⟨by kernel_rfl, ?h65⟩) (by assumption) ?r65
          case h65 => (intro w hSw; (try dsimp only at hSw); go_simp; try with_reducible rfl)
          try simp only [Act.put, List.setIfInBounds_toArray, List.set_cons_zero, List.set_cons_succ]
          refine wpAnyH_take (i := 5) (oi := { dst := some 77, op := Go.Op.move (Go.Operand.tmp 0), type := 55, pos := "wto.go:214", after := #[], guard := none }) (v := ?v66) rfl (by kernel_rfl) (by kernel_rfl) (by kernel_rfl) (fun _ _ _ h => h) (Or.inl ⟨by kernel_rfl, ?h66⟩) (by assumption) ?r66
          case h66 => (intro w hSw; (try dsimp only at hSw); go_simp; try with_reducible rfl)
          try simp only [Act.put, List.setIfInBounds_toArray, List.set_cons_zero, List.set_cons_succ]
          refine wpAnyH_take (i := 6) (oi := { dst := some 78, op := Go.Op.nilCheck (Go.Operand.tmp 77), type := 0, pos := "wto.go:214", after := #[{ on := 5, ground := Go.Ground.data }], guard := none }) (v := ?v67) rfl (by kernel_rfl) (by kernel_rfl) (by kernel_rfl) (fun _ _ _ h => h) (Or.inl ⟨by kernel_rfl, ?h67⟩) (by assumption) ?r67
          case h67 => (intro w hSw; (try dsimp only at hSw); go_simp; try with_reducible rfl)
          try simp only [Act.put, List.setIfInBounds_toArray, List.set_cons_zero, List.set_cons_succ]
          refine wpAnyH_take (i := 7) (oi := { dst := some 79, op := Go.Op.fieldAddr 58 (Go.Operand.tmp 78) 1, type := 0, pos := "wto.go:214", after := #[{ on := 6, ground := Go.Ground.data }], guard := none }) (v := ?v68) rfl (by kernel_rfl) (by kernel_rfl) (by kernel_rfl) (fun _ _ _ h => h) (Or.inl ⟨by kernel_rfl, ?h68⟩) (by assumption) ?r68
          case h68 => (intro w hSw; (try dsimp only at hSw); go_simp; try with_reducible rfl)
          try simp only [Act.put, List.setIfInBounds_toArray, List.set_cons_zero, List.set_cons_succ]
          refine wpAnyH_take (i := 8) (oi := { dst := some 80, op := Go.Op.load 3 (Go.Operand.tmp 79), type := 3, pos := "wto.go:214", after := #[{ on := 7, ground := Go.Ground.data }], guard := none }) (v := ?v69) rfl (by kernel_rfl) (by kernel_rfl) (by kernel_rfl) (fun _ _ _ h => h) (Or.inl ⟨by kernel_rfl, ?h69⟩) (by assumption) ?r69
          case h69 => (intro w hSw; (try dsimp only at hSw); go_simp; try with_reducible rfl)
          try simp only [Act.put, List.setIfInBounds_toArray, List.set_cons_zero, List.set_cons_succ]
          refine wpAnyH_take (i := 9) (oi := { dst := some 81, op := Go.Op.slice 9 (Go.Operand.tmp 75) (some (Go.Operand.tmp 76)) (some (Go.Operand.tmp 80)) none, type := 9, pos := "wto.go:214", after := #[{ on := 3, ground := Go.Ground.data }, { on := 4, ground := Go.Ground.data }, { on := 8, ground := Go.Ground.data }], guard := none }) (v := ?v70) rfl (by kernel_rfl) (by kernel_rfl) (by kernel_rfl) (fun _ _ _ h => h) (Or.inl ⟨by kernel_rfl, ?h70⟩) (by assumption) ?r70
          case h70 => (intro w hSw; (try dsimp only at hSw); go_simp; try with_reducible rfl)
          try simp only [Act.put, List.setIfInBounds_toArray, List.set_cons_zero, List.set_cons_succ]
          refine wpAnyH_ready (rs := [10]) (by kernel_rfl) (by simp) ?_
          refine AllReadyH.cons (o := { dst := some 82, op := Go.Op.call { callee := Go.Callee.value (Go.Operand.func 50), args := #[Go.Operand.tmp 81], argTypes := #[9] }, type := 74, pos := "wto.go:214", after := #[{ on := 9, ground := Go.Ground.data }], guard := none }) rfl (fun K hK => ?_) AllReadyH.nil
          go_simp
          refine (hpar.out _).mono ?_
          rintro e u2 ⟨rfl, bq⟩
          go_simp
          refine hK.out _ _ (hHeld.trans (bq.mono hHeld.size)) (fun hHeld => ?_)
          clear hK K
          try simp only [Act.put, List.setIfInBounds_toArray, List.set_cons_zero, List.set_cons_succ]
          refine wpAnyH_take (i := 11) (oi := { dst := some 71, op := Go.Op.move (Go.Operand.tmp 82), type := 74, pos := "wto.go:214", after := #[{ on := 10, ground := Go.Ground.data }], guard := none }) (v := ?v71) rfl (by kernel_rfl) (by kernel_rfl) (by kernel_rfl) (fun _ _ _ h => h) (Or.inl ⟨by kernel_rfl, ?h71⟩) (by assumption) ?r71
          case h71 => (intro w hSw; (try dsimp only at hSw); go_simp; try with_reducible rfl)
          try simp only [Act.put, List.setIfInBounds_toArray, List.set_cons_zero, List.set_cons_succ]
          refine wpAnyH_take (i := 12) (oi := { dst := some 83, op := Go.Op.extract (Go.Operand.tmp 71) 0, type := 3, pos := "wto.go:214", after := #[{ on := 11, ground := Go.Ground.data }], guard := none }) (v := ?v72) rfl (by kernel_rfl) (by kernel_rfl) (by kernel_rfl) (fun _ _ _ h => h) (Or.inl ⟨by kernel_rfl, ?h72⟩) (by assumption) ?r72
          case h72 => (intro w hSw; (try dsimp only at hSw); go_simp; try with_reducible rfl)
          try simp only [Act.put, List.setIfInBounds_toArray, List.set_cons_zero, List.set_cons_succ]
          refine wpAnyH_take (i := 13) (oi := { dst := some 84, op := Go.Op.extract (Go.Operand.tmp 71) 1, type := 30, pos := "wto.go:214", after := #[{ on := 11, ground := Go.Ground.data }, { on := 14, ground := Go.Ground.gcOnly Go.Departure.lateStores }], guard := none }) (v := ?v73) rfl (by kernel_rfl) (by kernel_rfl) (by kernel_rfl) (fun _ _ _ h => h) (Or.inl ⟨by kernel_rfl, ?h73⟩) (by assumption) ?r73
          case h73 => (intro w hSw; (try dsimp only at hSw); go_simp; try with_reducible rfl)
          try simp only [Act.put, List.setIfInBounds_toArray, List.set_cons_zero, List.set_cons_succ]
          refine wpAnyH_take (i := 14) (oi := { dst := some 3, op := Go.Op.assign (Go.Operand.tmp 83), type := 3, pos := "wto.go:214", after := #[{ on := 12, ground := Go.Ground.data }, { on := 10, ground := Go.Ground.chain }, { on := 0, ground := Go.Ground.phase }, { on := 1, ground := Go.Ground.phase }, { on := 2, ground := Go.Ground.phase }, { on := 3, ground := Go.Ground.phase }, { on := 4, ground := Go.Ground.phase }, { on := 5, ground := Go.Ground.phase }, { on := 6, ground := Go.Ground.phase }, { on := 7, ground := Go.Ground.phase }, { on := 8, ground := Go.Ground.phase }, { on := 9, ground := Go.Ground.phase }, { on := 10, ground := Go.Ground.phase }, { on := 11, ground := Go.Ground.phase }, { on := 12, ground := Go.Ground.phase }, { on := 13, ground := Go.Ground.textOnly Go.Departure.lateStores }], guard := none }) (v := ?v74) rfl (by kernel_rfl) (by kernel_rfl) (by kernel_rfl) (fun _ _ _ h => h) (Or.inl ⟨by kernel_rfl, ?h74⟩) (by assumption) ?r74
          case h74 => (intro w hSw; (try dsimp only at hSw); go_simp; try with_reducible rfl)
          try simp only [Act.put, List.setIfInBounds_toArray, List.set_cons_zero, List.set_cons_succ]
          refine wpAnyH_take (i := 15) (oi := { dst := some 4, op := Go.Op.assign (Go.Operand.tmp 84), type := 30, pos := "wto.go:214", after := #[{ on := 13, ground := Go.Ground.data }, { on := 14, ground := Go.Ground.chain }, { on := 0, ground := Go.Ground.phase }, { on := 1, ground := Go.Ground.phase }, { on := 2, ground := Go.Ground.phase }, { on := 3, ground := Go.Ground.phase }, { on := 4, ground := Go.Ground.phase }, { on := 5, ground := Go.Ground.phase }, { on := 6, ground := Go.Ground.phase }, { on := 7, ground := Go.Ground.phase }, { on := 8, ground := Go.Ground.phase }, { on := 9, ground := Go.Ground.phase }, { on := 10, ground := Go.Ground.phase }, { on := 11, ground := Go.Ground.phase }, { on := 12, ground := Go.Ground.phase }, { on := 13, ground := Go.Ground.phase }, { on := 14, ground := Go.Ground.phase }], guard := none }) (v := ?v75) rfl (by kernel_rfl) (by kernel_rfl) (by kernel_rfl) (fun _ _ _ h => h) (Or.inl ⟨by kernel_rfl, ?h75⟩) (by assumption) ?r75
          case h75 => (intro w hSw; (try dsimp only at hSw); go_simp; try with_reducible rfl)
          try simp only [Act.put, List.setIfInBounds_toArray, List.set_cons_zero, List.set_cons_succ]
          refine wpAnyH_done (by kernel_rfl) ?_ _
          have H2 := Lib.hid (H.out.made hHeld)
          clear ka0 ka1 hs3 hHeld H hsl hpar
          have k4 := (H2.out.blk.cell (4 + x)).trans (rc4 _ _ _ _ _ _ x hx)
          rw [honce'.out] at k4
          have f4 := H2.out.blk.free (4 + x)
          have hxi : (x : Int) < 128 := by omega
          have hx0 : (0 : Int) ≤ (x : Int) := by omega
          have G5 := H2.out.g.set (4 + x) (.bool true)
          rw [rs4 s q (.slice aP a cP) (.slice aS a cS) P a x ha'.out hx hxa'.out] at G5
          replace G5 := Lib.hid G5
          clear H2
          go_upto_region 9 with (fail)
          generalize u2.setCell ⟨r, 4 + x, none⟩ (.bool true) = w5 at *
          have k2 := (G5.out.blk.cell 2).trans (rc2 _ _ _ _ _ _)
          clear k4 f4
          go_upto_region 10 with (at_builtin; refine wpList_append_foot _ rfl (.tmp 112) (.tmp 114) 22 rfl 3 i0 (.int .i64 0) 8 Tryd.underlying22 hi hz0 hz1 hz2 rfl .i64 _ (P.take a) (by have o := own_zero (own_below G5.out.rp (box_below w5 #[.int .i64 (x : Int)] 3)); rw [hPl.out]; exact o) _ _ [(x : Int)] (sees_new .i64 w5 3 [(x : Int)] _ rfl) 1 1 rfl rfl rfl (by rw [hPl.out]; simp only [List.length_singleton]; unfold maxLen; omega) (by rw [hPl.out]; simp only [List.length_singleton]; omega) ?_; intro v' w6 hown' hgrow hblk; have G6 := (G5.out.made (box_below w5 #[.int .i64 (x : Int)] 3)).grow1 hgrow hown' hblk; rw [← htake.out] at G6; obtain ⟨a6, c6, hv6, -, -⟩ := sees_own hown'; rw [List.length_append, hPl.out, List.length_singleton] at hv6; rw [hPl2.out] at G6; subst hv6; have G6' := Lib.hid G6; have f6 := G6.blk.free 2; have k6 := (G6.blk.cell 2).trans (rc2 _ _ _ _ _ _); have k63 := (G6.blk.cell 3).trans (rc3 _ _ _ _ _ _); clear hown' hgrow hblk G6)
          have G7 := Lib.hid (G6'.out.set 2 (.slice a6 (a + 1) c6))
          rw [rs2] at G7
          generalize w6.setCell ⟨r, 2, none⟩ (.slice a6 (a + 1) c6) = w7 at *
          clear k6 k63 f6 G6' G5 k2
          have k3 := (G7.out.blk.cell 3).trans (rc3 _ _ _ _ _ _)
          go_wp2_with (at_builtin; refine wpList_append_foot _ rfl (.tmp 124) (.tmp 125) 22 rfl 3 i0 (.int .i64 0) 8 Tryd.underlying22 hi hz0 hz1 hz2 rfl .i64 _ Zs (by have o := own_zero (own_below G7.out.rz (box_below w7 #[.int .i64 0] 3)); rw [hZl.out]; exact o) _ _ [0] (sees_new .i64 w7 3 [0] _ rfl) 1 1 rfl rfl rfl (by rw [hZl.out]; simp only [List.length_singleton]; unfold maxLen; omega) (by rw [hZl.out]; simp only [List.length_singleton]; omega) ?_; intro v' w8 hown' hgrow hblk; have G8 := (G7.out.made (box_below w7 #[.int .i64 0] 3)).grow2 hgrow hown' hblk; obtain ⟨a8, c8, hv8, -, -⟩ := sees_own hown'; rw [List.length_append, hZl.out, List.length_singleton] at hv8; rw [List.length_append, hZl.out, List.length_singleton] at G8; subst hv8; have G8' := Lib.hid G8; have f8 := G8.blk.free 3; have k8 := (G8.blk.cell 3).trans (rc3 _ _ _ _ _ _); clear hown' hgrow hblk G8)
          have G9 := G8'.out.set 3 (.slice a8 (a + 1) c8)
          rw [rs3] at G9
          have hfin : Hid (RdN w0 B r s (p + D.length) (a + 1) P (Zs ++ [0]) (.returned (.tuple #[])) (w8.setCell ⟨r, 3, none⟩ (.slice a8 (a + 1) c8))) := Lib.hid ⟨rfl, a6, a8, c6, c8, by rw [← hq'.out]; exact RdG.i G9 rfl⟩
          clear G9 G8' G7 k3
          go_wp2
          go_end0
          exact hfin.out
        · rw [← hqc] at c48
          have d1 : decide ((48 : Int) ≤ (s[q].toNat : Int)) = false := by simp; omega
          clear hqc hrest hcd c48
          go_wp2
          go_quiet (fail)
          have ka0 : ∀ W, Below wr.heap.size wr W → W.cell? ⟨r, 0, none⟩ = some (.string s) := fun W hW => ((H.out.blk.below hW H.out.blk.lt).cell 0).trans (rc0 _ _ _ _ _ _)
          have ka1 : ∀ W, Below wr.heap.size wr W → W.cell? ⟨r, 1, none⟩ = some (.int .i64 q) := fun W hW => ((H.out.blk.below hW H.out.blk.lt).cell 1).trans (rc1 _ _ _ _ _ _)
          have ka0' := Lib.hid ka0
          have ka1' := Lib.hid ka1
          clear ka0 ka1 k0 k1 f1
          go_wp2
          have ka0 := ka0'.out
          have ka1 := ka1'.out
          have hs3 := hsl.out
          refine wp_drawn_on (fun W => Below wr.heap.size wr W) (by kernel_rfl) (Below.drewN (Below.drewN (Below.refl _ _) nq) 1) (fun hHeld => ?_)
          refine wpAnyH_take (i := 0) (oi := { dst := some 72, op := Go.Op.move (Go.Operand.tmp 0), type := 55, pos := "wto.go:214", after := #[], guard := none }) (v := ?v76) rfl (by kernel_rfl) (by kernel_rfl) (by kernel_rfl) (fun _ _ _ h => h) (Or.inl ⟨by kernel_rfl, ?h76⟩) (by assumption) ?r76
          case h76 => (intro w hSw; (try dsimp only at hSw); go_simp; try with_reducible rfl)
          try simp only [Act.put, List.setIfInBounds_toArray, List.set_cons_zero, List.set_cons_succ]
          refine wpAnyH_take (i := 1) (oi := { dst := some 73, op := Go.Op.nilCheck (Go.Operand.tmp 72), type := 0, pos := "wto.go:214", after := #[{ on := 0, ground := Go.Ground.data }], guard := none }) (v := ?v77) rfl (by kernel_rfl) (by kernel_rfl) (by kernel_rfl) (fun _ _ _ h => h) (Or.inl ⟨by kernel_rfl, ?h77⟩) (by assumption) ?r77
          case h77 => (intro w hSw; (try dsimp only at hSw); go_simp; try with_reducible rfl)
          try simp only [Act.put, List.setIfInBounds_toArray, List.set_cons_zero, List.set_cons_succ]
          refine wpAnyH_take (i := 2) (oi := { dst := some 74, op := Go.Op.fieldAddr 58 (Go.Operand.tmp 73) 0, type := 0, pos := "wto.go:214", after := #[{ on := 1, ground := Go.Ground.data }], guard := none }) (v := ?v78) rfl (by kernel_rfl) (by kernel_rfl) (by kernel_rfl) (fun _ _ _ h => h) (Or.inl ⟨by kernel_rfl, ?h78⟩) (by assumption) ?r78
          case h78 => (intro w hSw; (try dsimp only at hSw); go_simp; try with_reducible rfl)
          try simp only [Act.put, List.setIfInBounds_toArray, List.set_cons_zero, List.set_cons_succ]
          refine wpAnyH_take (i := 3) (oi := { dst := some 75, op := Go.Op.load 9 (Go.Operand.tmp 74), type := 9, pos := "wto.go:214", after := #[{ on := 2, ground := Go.Ground.data }], guard := none }) (v := ?v79) rfl (by kernel_rfl) (by kernel_rfl) (by kernel_rfl) (fun _ _ _ h => h) (Or.inl ⟨by kernel_rfl, ?h79⟩) (by assumption) ?r79
          case h79 => (intro w hSw; (try dsimp only at hSw); go_simp; try with_reducible rfl)
          try simp only [Act.put, List.setIfInBounds_toArray, List.set_cons_zero, List.set_cons_succ]
          refine wpAnyH_take (i := 4) (oi := { dst := some 76, op := Go.Op.move (Go.Operand.tmp 2), type := 3, pos := "wto.go:214", after := #[], guard := none }) (v := ?v80) rfl (by kernel_rfl) (by kernel_rfl) (by kernel_rfl) (fun _ _ _ h => h) (Or.inl ⟨by kernel_rfl, ?h80⟩) (by assumption) ?r80
          case h80 => (intro w hSw; (try dsimp only at hSw); go_simp; try with_reducible rfl)
          try simp only [Act.put, List.setIfInBounds_toArray, List.set_cons_zero, List.set_cons_succ]
          refine wpAnyH_take (i := 5) (oi := { dst := some 77, op := Go.Op.move (Go.Operand.tmp 0), type := 55, pos := "wto.go:214", after := #[], guard := none }) (v := ?v81) rfl (by kernel_rfl) (by kernel_rfl) (by kernel_rfl) (fun _ _ _ h => h) (Or.inl ⟨by kernel_rfl, ?h81⟩) (by assumption) ?r81
          case h81 => (intro w hSw; (try dsimp only at hSw); go_simp; try with_reducible rfl)
          try simp only [Act.put, List.setIfInBounds_toArray, List.set_cons_zero, List.set_cons_succ]
          refine wpAnyH_take (i := 6) (oi := { dst := some 78, op := Go.Op.nilCheck (Go.Operand.tmp 77), type := 0, pos := "wto.go:214", after := #[{ on := 5, ground := Go.Ground.data }], guard := none }) (v := ?v82) rfl (by kernel_rfl) (by kernel_rfl) (by kernel_rfl) (fun _ _ _ h => h) (Or.inl ⟨by kernel_rfl, ?h82⟩) (by assumption) ?r82
          case h82 => (intro w hSw; (try dsimp only at hSw); go_simp; try with_reducible rfl)
          try simp only [Act.put, List.setIfInBounds_toArray, List.set_cons_zero, List.set_cons_succ]
          refine wpAnyH_take (i := 7) (oi := { dst := some 79, op := Go.Op.fieldAddr 58 (Go.Operand.tmp 78) 1, type := 0, pos := "wto.go:214", after := #[{ on := 6, ground := Go.Ground.data }], guard := none }) (v := ?v83) rfl (by kernel_rfl) (by kernel_rfl) (by kernel_rfl) (fun _ _ _ h => h) (Or.inl ⟨by kernel_rfl, ?h83⟩) (by assumption) ?r83
          case h83 => (intro w hSw; (try dsimp only at hSw); go_simp; try with_reducible rfl)
          try simp only [Act.put, List.setIfInBounds_toArray, List.set_cons_zero, List.set_cons_succ]
          refine wpAnyH_take (i := 8) (oi := { dst := some 80, op := Go.Op.load 3 (Go.Operand.tmp 79), type := 3, pos := "wto.go:214", after := #[{ on := 7, ground := Go.Ground.data }], guard := none }) (v := ?v84) rfl (by kernel_rfl) (by kernel_rfl) (by kernel_rfl) (fun _ _ _ h => h) (Or.inl ⟨by kernel_rfl, ?h84⟩) (by assumption) ?r84
          case h84 => (intro w hSw; (try dsimp only at hSw); go_simp; try with_reducible rfl)
          try simp only [Act.put, List.setIfInBounds_toArray, List.set_cons_zero, List.set_cons_succ]
          refine wpAnyH_take (i := 9) (oi := { dst := some 81, op := Go.Op.slice 9 (Go.Operand.tmp 75) (some (Go.Operand.tmp 76)) (some (Go.Operand.tmp 80)) none, type := 9, pos := "wto.go:214", after := #[{ on := 3, ground := Go.Ground.data }, { on := 4, ground := Go.Ground.data }, { on := 8, ground := Go.Ground.data }], guard := none }) (v := ?v85) rfl (by kernel_rfl) (by kernel_rfl) (by kernel_rfl) (fun _ _ _ h => h) (Or.inl ⟨by kernel_rfl, ?h85⟩) (by assumption) ?r85
          case h85 => (intro w hSw; (try dsimp only at hSw); go_simp; try with_reducible rfl)
          try simp only [Act.put, List.setIfInBounds_toArray, List.set_cons_zero, List.set_cons_succ]
          refine wpAnyH_ready (rs := [10]) (by kernel_rfl) (by simp) ?_
          refine AllReadyH.cons (o := { dst := some 82, op := Go.Op.call { callee := Go.Callee.value (Go.Operand.func 50), args := #[Go.Operand.tmp 81], argTypes := #[9] }, type := 74, pos := "wto.go:214", after := #[{ on := 9, ground := Go.Ground.data }], guard := none }) rfl (fun K hK => ?_) AllReadyH.nil
          go_simp
          refine (hpar.out _).mono ?_
          rintro e u2 ⟨rfl, bq⟩
          go_simp
          refine hK.out _ _ (hHeld.trans (bq.mono hHeld.size)) (fun hHeld => ?_)
          clear hK K
          try simp only [Act.put, List.setIfInBounds_toArray, List.set_cons_zero, List.set_cons_succ]
          refine wpAnyH_take (i := 11) (oi := { dst := some 71, op := Go.Op.move (Go.Operand.tmp 82), type := 74, pos := "wto.go:214", after := #[{ on := 10, ground := Go.Ground.data }], guard := none }) (v := ?v86) rfl (by kernel_rfl) (by kernel_rfl) (by kernel_rfl) (fun _ _ _ h => h) (Or.inl ⟨by kernel_rfl, ?h86⟩) (by assumption) ?r86
          case h86 => (intro w hSw; (try dsimp only at hSw); go_simp; try with_reducible rfl)
          try simp only [Act.put, List.setIfInBounds_toArray, List.set_cons_zero, List.set_cons_succ]
          refine wpAnyH_take (i := 12) (oi := { dst := some 83, op := Go.Op.extract (Go.Operand.tmp 71) 0, type := 3, pos := "wto.go:214", after := #[{ on := 11, ground := Go.Ground.data }], guard := none }) (v := ?v87) rfl (by kernel_rfl) (by kernel_rfl) (by kernel_rfl) (fun _ _ _ h => h) (Or.inl ⟨by kernel_rfl, ?h87⟩) (by assumption) ?r87
          case h87 => (intro w hSw; (try dsimp only at hSw); go_simp; try with_reducible rfl)
          try simp only [Act.put, List.setIfInBounds_toArray, List.set_cons_zero, List.set_cons_succ]
          refine wpAnyH_take (i := 13) (oi := { dst := some 84, op := Go.Op.extract (Go.Operand.tmp 71) 1, type := 30, pos := "wto.go:214", after := #[{ on := 11, ground := Go.Ground.data }, { on := 14, ground := Go.Ground.gcOnly Go.Departure.lateStores }], guard := none }) (v := ?v88) rfl (by kernel_rfl) (by kernel_rfl) (by kernel_rfl) (fun _ _ _ h => h) (Or.inl ⟨by kernel_rfl, ?h88⟩) (by assumption) ?r88
          case h88 => (intro w hSw; (try dsimp only at hSw); go_simp; try with_reducible rfl)
          try simp only [Act.put, List.setIfInBounds_toArray, List.set_cons_zero, List.set_cons_succ]
          refine wpAnyH_take (i := 14) (oi := { dst := some 3, op := Go.Op.assign (Go.Operand.tmp 83), type := 3, pos := "wto.go:214", after := #[{ on := 12, ground := Go.Ground.data }, { on := 10, ground := Go.Ground.chain }, { on := 0, ground := Go.Ground.phase }, { on := 1, ground := Go.Ground.phase }, { on := 2, ground := Go.Ground.phase }, { on := 3, ground := Go.Ground.phase }, { on := 4, ground := Go.Ground.phase }, { on := 5, ground := Go.Ground.phase }, { on := 6, ground := Go.Ground.phase }, { on := 7, ground := Go.Ground.phase }, { on := 8, ground := Go.Ground.phase }, { on := 9, ground := Go.Ground.phase }, { on := 10, ground := Go.Ground.phase }, { on := 11, ground := Go.Ground.phase }, { on := 12, ground := Go.Ground.phase }, { on := 13, ground := Go.Ground.textOnly Go.Departure.lateStores }], guard := none }) (v := ?v89) rfl (by kernel_rfl) (by kernel_rfl) (by kernel_rfl) (fun _ _ _ h => h) (Or.inl ⟨by kernel_rfl, ?h89⟩) (by assumption) ?r89
          case h89 => (intro w hSw; (try dsimp only at hSw); go_simp; try with_reducible rfl)
          try simp only [Act.put, List.setIfInBounds_toArray, List.set_cons_zero, List.set_cons_succ]
          refine wpAnyH_take (i := 15) (oi := { dst := some 4, op := Go.Op.assign (Go.Operand.tmp 84), type := 30, pos := "wto.go:214", after := #[{ on := 13, ground := Go.Ground.data }, { on := 14, ground := Go.Ground.chain }, { on := 0, ground := Go.Ground.phase }, { on := 1, ground := Go.Ground.phase }, { on := 2, ground := Go.Ground.phase }, { on := 3, ground := Go.Ground.phase }, { on := 4, ground := Go.Ground.phase }, { on := 5, ground := Go.Ground.phase }, { on := 6, ground := Go.Ground.phase }, { on := 7, ground := Go.Ground.phase }, { on := 8, ground := Go.Ground.phase }, { on := 9, ground := Go.Ground.phase }, { on := 10, ground := Go.Ground.phase }, { on := 11, ground := Go.Ground.phase }, { on := 12, ground := Go.Ground.phase }, { on := 13, ground := Go.Ground.phase }, { on := 14, ground := Go.Ground.phase }], guard := none }) (v := ?v90) rfl (by kernel_rfl) (by kernel_rfl) (by kernel_rfl) (fun _ _ _ h => h) (Or.inl ⟨by kernel_rfl, ?h90⟩) (by assumption) ?r90
          case h90 => (intro w hSw; (try dsimp only at hSw); go_simp; try with_reducible rfl)
          try simp only [Act.put, List.setIfInBounds_toArray, List.set_cons_zero, List.set_cons_succ]
          refine wpAnyH_done (by kernel_rfl) ?_ _
          have H2 := Lib.hid (H.out.made hHeld)
          clear ka0 ka1 hs3 hHeld H hsl hpar
          have k4 := (H2.out.blk.cell (4 + x)).trans (rc4 _ _ _ _ _ _ x hx)
          rw [honce'.out] at k4
          have f4 := H2.out.blk.free (4 + x)
          have hxi : (x : Int) < 128 := by omega
          have hx0 : (0 : Int) ≤ (x : Int) := by omega
          have G5 := H2.out.g.set (4 + x) (.bool true)
          rw [rs4 s q (.slice aP a cP) (.slice aS a cS) P a x ha'.out hx hxa'.out] at G5
          replace G5 := Lib.hid G5
          clear H2
          go_upto_region 9 with (fail)
          generalize u2.setCell ⟨r, 4 + x, none⟩ (.bool true) = w5 at *
          have k2 := (G5.out.blk.cell 2).trans (rc2 _ _ _ _ _ _)
          clear k4 f4
          go_upto_region 10 with (at_builtin; refine wpList_append_foot _ rfl (.tmp 112) (.tmp 114) 22 rfl 3 i0 (.int .i64 0) 8 Tryd.underlying22 hi hz0 hz1 hz2 rfl .i64 _ (P.take a) (by have o := own_zero (own_below G5.out.rp (box_below w5 #[.int .i64 (x : Int)] 3)); rw [hPl.out]; exact o) _ _ [(x : Int)] (sees_new .i64 w5 3 [(x : Int)] _ rfl) 1 1 rfl rfl rfl (by rw [hPl.out]; simp only [List.length_singleton]; unfold maxLen; omega) (by rw [hPl.out]; simp only [List.length_singleton]; omega) ?_; intro v' w6 hown' hgrow hblk; have G6 := (G5.out.made (box_below w5 #[.int .i64 (x : Int)] 3)).grow1 hgrow hown' hblk; rw [← htake.out] at G6; obtain ⟨a6, c6, hv6, -, -⟩ := sees_own hown'; rw [List.length_append, hPl.out, List.length_singleton] at hv6; rw [hPl2.out] at G6; subst hv6; have G6' := Lib.hid G6; have f6 := G6.blk.free 2; have k6 := (G6.blk.cell 2).trans (rc2 _ _ _ _ _ _); have k63 := (G6.blk.cell 3).trans (rc3 _ _ _ _ _ _); clear hown' hgrow hblk G6)
          have G7 := Lib.hid (G6'.out.set 2 (.slice a6 (a + 1) c6))
          rw [rs2] at G7
          generalize w6.setCell ⟨r, 2, none⟩ (.slice a6 (a + 1) c6) = w7 at *
          clear k6 k63 f6 G6' G5 k2
          have k3 := (G7.out.blk.cell 3).trans (rc3 _ _ _ _ _ _)
          go_wp2_with (at_builtin; refine wpList_append_foot _ rfl (.tmp 124) (.tmp 125) 22 rfl 3 i0 (.int .i64 0) 8 Tryd.underlying22 hi hz0 hz1 hz2 rfl .i64 _ Zs (by have o := own_zero (own_below G7.out.rz (box_below w7 #[.int .i64 0] 3)); rw [hZl.out]; exact o) _ _ [0] (sees_new .i64 w7 3 [0] _ rfl) 1 1 rfl rfl rfl (by rw [hZl.out]; simp only [List.length_singleton]; unfold maxLen; omega) (by rw [hZl.out]; simp only [List.length_singleton]; omega) ?_; intro v' w8 hown' hgrow hblk; have G8 := (G7.out.made (box_below w7 #[.int .i64 0] 3)).grow2 hgrow hown' hblk; obtain ⟨a8, c8, hv8, -, -⟩ := sees_own hown'; rw [List.length_append, hZl.out, List.length_singleton] at hv8; rw [List.length_append, hZl.out, List.length_singleton] at G8; subst hv8; have G8' := Lib.hid G8; have f8 := G8.blk.free 3; have k8 := (G8.blk.cell 3).trans (rc3 _ _ _ _ _ _); clear hown' hgrow hblk G8)
          have G9 := G8'.out.set 3 (.slice a8 (a + 1) c8)
          rw [rs3] at G9
          have hfin : Hid (RdN w0 B r s (p + D.length) (a + 1) P (Zs ++ [0]) (.returned (.tuple #[])) (w8.setCell ⟨r, 3, none⟩ (.slice a8 (a + 1) c8))) := Lib.hid ⟨rfl, a6, a8, c6, c8, by rw [← hq'.out]; exact RdG.i G9 rfl⟩
          clear G9 G8' G7 k3
          go_wp2
          go_end0
          exact hfin.out
end Go.Proofs.YtpbminoefmpmpaaDoor
