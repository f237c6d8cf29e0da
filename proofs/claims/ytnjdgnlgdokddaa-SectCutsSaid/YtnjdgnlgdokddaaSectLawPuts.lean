/- SectPuts: the walk of the statement's function. -/
import Derived.Test.YtnjdgnlgdokddaaSectLives
namespace Go.Proofs.Ytnjdgnlgdokddaa
open Go.RowKit
set_option linter.unusedVariables false
set_option linter.unusedSimpArgs false

theorem total_mem {l : List Sc} {s : Sc} (h : s ∈ l) : s.m ≤ total l := by
  unfold total
  induction l with
  | nil => simp at h
  | cons x l ih =>
    simp only [List.map_cons, List.sum_cons]
    rcases List.mem_cons.1 h with rfl | h
    · omega
    · have := ih h; omega
theorem putL_len {l : List Sc} (M : Nat) (hM : M ≤ 100000000) (h : ∀ s ∈ l, s.b.length ≤ M) : (putL (l.map absS)).length ≤ 5 + l.length * (M + 15) := by
  have := bodyL_len M hM h
  unfold putL
  rw [List.length_append]
  simp only [headL, List.length_cons, List.length_nil]; omega
theorem abs_bs {l : List Sc} {B : Nat} {w : World} (h : ∀ s ∈ l, ScOK B w s) : ∀ s ∈ l.map absS, Bs s.2 := by
  intro s hs
  obtain ⟨x, hx, rfl⟩ := List.mem_map.1 hs
  exact (h x hx).2.2.2.2.1

set_option maxRecDepth 100000 in
set_option maxHeartbeats 2000000 in
theorem sectPuts_walk (w : World) (ro : Option Addr) (len co : Nat) (hrow : SecSl w ro len co) :
    Calls Try.prog 3 #[.slice ro len co] w (Gives (.bool true) w) := by
  obtain ⟨hlc, hcm, L, hLn, hsec⟩ := hrow
  unfold maxLen at hcm
  have hlg := Lib.hid (large_any ro L len co 1100000 hLn.symm (by omega) (by omega) w hsec)
  have hsec' := Lib.hid hsec
  have hLn' := Lib.hid hLn
  have hli : (len : Int) ≤ 9223372036854775807 := by omega
  clear hsec hLn hlc
  go_enter Try.func3, Try.ntmps3
  go_wp2_with fail
  refine hlg.out.mono ?_
  rintro e w' ⟨rfl, rfl | ⟨rfl, h20, htot⟩⟩
  · clear hlg hsec'
    go_wp2_with fail
    refine (slives_any _).mono ?_
    rintro e w1 ⟨rfl, b1⟩
    have b1' := Lib.hid b1
    clear b1
    go_wp2
    go_ret
    exact ⟨rfl, b1'.out⟩
  have hok := hsec'.out.ok
  have hM : Hid (∀ s ∈ L, s.b.length ≤ 2000000) := Lib.hid (fun s hs => by have := total_mem hs; have := (hok s hs).2.1; omega)
  have hP : Hid ((putL (L.map absS)).length ≤ 100000000) := Lib.hid (by
    have q1 := putL_len 2000000 (by omega) hM.out
    have q2 : L.length * (2000000 + 15) ≤ 20 * (2000000 + 15) := Nat.mul_le_mul_right _ h20
    omega)
  have hbs := Lib.hid (abs_bs hok)
  have hPb : Hid (Bs (putL (L.map absS))) := Lib.hid (putL_bs (fun s hs => (hok s hs).2.2.2.2.1))
  have h20' := Lib.hid h20
  have hput := Lib.hid (sput_any ro L len co hLn'.out.symm (by omega) w hsec'.out)
  clear hlg htot hok h20
  go_wp2_with fail
  refine hput.out.mono ?_
  rintro e w1 ⟨b1, ⟨hc0, a3, c3, rfl, hc3, s3⟩ | ⟨hc0, rfl⟩⟩
  · have hck := Lib.hid (rcheck_any ro L len co hLn'.out.symm (by omega) w1 ((hsec'.out.below b1).mono b1.size))
    rw [hc0] at hck
    have b1' := Lib.hid b1
    have s3' := Lib.hid s3
    have hget : Hid (∀ W, Below w1.heap.size w1 W → Calls Try.prog 12 #[.slice a3 (putL (L.map absS)).length c3] W (GetS (L.map absS, (putL (L.map absS)).length, 0) W)) := Lib.hid (fun W hb => by
      have := sget_any a3 (putL (L.map absS)) (putL (L.map absS)).length c3 rfl hP.out hc3 hPb.out W ((s3'.out.below hb).mono hb.size)
      rwa [get_put hbs.out hc0] at this)
    have hrp : Hid (∀ W, Below w1.heap.size w1 W → Calls Try.prog 13 #[.slice ro len co] W (fun e w' => ∃ a c, e = .returned (.slice a (putL (L.map absS)).length c) ∧ (∀ W', Below w'.heap.size w' W' → (convert 25 9 (.slice a (putL (L.map absS)).length c)).run Try.prog W' = .ok (.string (strOfNums (putL (L.map absS)))) W') ∧ Below W.heap.size W w')) := Lib.hid (fun W hb =>
      (rput_any ro L len co hLn'.out.symm (by have := hLn'.out; have := h20'.out; omega) hM.out W (((hsec'.out.below b1'.out).below (hb.mono b1'.out.size)).mono (by have := b1'.out.size; have := hb.size; omega))).mono (by
        intro e w' hm
        obtain ⟨a, c, rfl, hs, hb⟩ := hm.open _ rfl
        exact ⟨a, c, rfl, fun W' hW' => conv_sees _ 9 5 Try.underlying25 Try.underlying5 Try.underlying9 (hs.below hW') _ c rfl, hb⟩))
    have hcv : Hid (∀ W, Below w1.heap.size w1 W → (convert 25 9 (.slice a3 (putL (L.map absS)).length c3)).run Try.prog W = .ok (.string (strOfNums (putL (L.map absS)))) W) := Lib.hid (fun W hW => conv_sees _ 9 5 Try.underlying25 Try.underlying5 Try.underlying9 (s3'.out.below hW) _ c3 rfl)
    have hpi : ((putL (L.map absS)).length : Int) ≤ 100000000 := by have := hP.out; omega
    have hsm : Hid (∀ (a4 : Option Addr) (c4 : Nat) (ls : List Sc) (W : World), Below w1.heap.size w1 W → ls.map absS = L.map absS → SecS W.heap.size W a4 ls → Calls Try.prog 14 #[.slice ro len co, .slice a4 ls.length c4] W (Gives (.bool true) W)) := Lib.hid (fun a4 c4 ls W hb he hs => by
      have hl2 : ls.length = L.length := by have := congrArg List.length he; simpa using this
      have := rsame_any ro a4 L ls len ls.length co c4 hLn'.out.symm rfl (by omega) (by have := h20'.out; omega) W (((hsec'.out.below b1'.out).below (hb.mono b1'.out.size)).mono (by have := b1'.out.size; have := hb.size; omega)) hs
      rwa [he, show decide (L.map absS = L.map absS) = true by simp] at this)
    clear b1 s3 hc0 hput hsec' hP hPb hbs hM hc3 s3'
    generalize strOfNums (putL (L.map absS)) = X at *
    generalize (putL (L.map absS)).length = pn at *
    go_wp2_with fail
    refine hck.out.mono ?_
    rintro e w2 ⟨rfl, rfl⟩
    clear hck
    go_wp2_with fail
    refine (slives_any _).mono ?_
    rintro e w3 ⟨rfl, b3⟩
    have b3' := Lib.hid b3
    clear b3
    go_wp2_with fail
    refine (hget.out w3 b3'.out).mono ?_
    rintro e w4 ⟨b4, a4, c4, ls, hls, rfl, -, hl16, s4⟩
    have B4 := Lib.hid (b3'.out.trans (b4.mono b3'.out.size))
    have hcv4 : ∀ W, Below w4.heap.size w4 W → (convert 25 9 (.slice a3 pn c3)).run Try.prog W = .ok (.string X) W := fun W hW => hcv.out W (B4.out.trans (hW.mono B4.out.size))
    have hls' := Lib.hid hls
    have s4' := Lib.hid s4
    have hl16i : (ls.length : Int) ≤ 16 := by omega
    clear b4 s4 hls hget b3' hl16 hcv
    go_wp2
    refine wp_drawn (by kernel_rfl) (fun hHeld => ?_)
    refine wpAnyH_take (i := 0) (oi := { dst := some 37, op := Go.Op.move (Go.Operand.tmp 3), type := 25, pos := "law.go:39", after := #[], guard := none }) (v := ?v1) rfl (by kernel_rfl) (by kernel_rfl) (by kernel_rfl) (fun _ _ _ h => h) (Or.inl ⟨by kernel_rfl, ?h1⟩) (by assumption) ?r1
    case h1 => (intro w hSw; (try dsimp only at hSw); go_simp; try with_reducible rfl)
    try simp only [Act.put, List.setIfInBounds_toArray, List.set_cons_zero, List.set_cons_succ]
    refine wpAnyH_take (i := 1) (oi := { dst := some 38, op := Go.Op.convert 25 9 (Go.Operand.tmp 37), type := 9, pos := "law.go:39", after := #[{ on := 0, ground := Go.Ground.data }], guard := none }) (v := ?v2) rfl (by kernel_rfl) (by kernel_rfl) (by kernel_rfl) (fun _ _ _ h => h) (Or.inl ⟨by kernel_rfl, ?h2⟩) (by assumption) ?r2
    case h2 => (intro w hSw; (try dsimp only at hSw); go_simp; try with_reducible rfl)
    try simp only [Act.put, List.setIfInBounds_toArray, List.set_cons_zero, List.set_cons_succ]
    refine wpAnyH_take (i := 2) (oi := { dst := some 39, op := Go.Op.move (Go.Operand.tmp 0), type := 22, pos := "law.go:39", after := #[], guard := none }) (v := ?v3) rfl (by kernel_rfl) (by kernel_rfl) (by kernel_rfl) (fun _ _ _ h => h) (Or.inl ⟨by kernel_rfl, ?h3⟩) (by assumption) ?r3
    case h3 => (intro w hSw; (try dsimp only at hSw); go_simp; try with_reducible rfl)
    try simp only [Act.put, List.setIfInBounds_toArray, List.set_cons_zero, List.set_cons_succ]
    refine wpAnyH_ready (rs := [3]) (by kernel_rfl) (by simp) ?_
    refine AllReadyH.cons (o := { dst := some 40, op := Go.Op.call { callee := Go.Callee.value (Go.Operand.func 13), args := #[Go.Operand.tmp 39], argTypes := #[22] }, type := 25, pos := "law.go:39", after := #[{ on := 2, ground := Go.Ground.data }], guard := none }) rfl (fun K hK => ?_) AllReadyH.nil
    go_simp
    have hbb := B4.out.trans (hHeld.mono B4.out.size)
    refine (hrp.out _ hbb).mono ?_
    rintro e w5 ⟨a5, c5, rfl, hcv5, hb5⟩
    have hb3 : Below w4.heap.size w4 w5 := hHeld.trans (hb5.mono hHeld.size)
    go_simp
    refine hK.out _ _ (hb3) (fun hHeld => ?_)
    clear hK K
    try simp only [Act.put, List.setIfInBounds_toArray, List.set_cons_zero, List.set_cons_succ]
    refine wpAnyH_now hHeld (fun hHeld => ?_)
    replace hcv4 := rebase hcv4 (hb3)
    refine wpAnyH_take (i := 4) (oi := { dst := some 41, op := Go.Op.convert 25 9 (Go.Operand.tmp 40), type := 9, pos := "law.go:39", after := #[{ on := 3, ground := Go.Ground.data }], guard := none }) (v := ?v4) rfl (by kernel_rfl) (by kernel_rfl) (by kernel_rfl) (fun _ _ _ h => h) (Or.inl ⟨by kernel_rfl, ?h4⟩) (by assumption) ?r4
    case h4 => (intro w hSw; (try dsimp only at hSw); go_simp; try with_reducible rfl)
    try simp only [Act.put, List.setIfInBounds_toArray, List.set_cons_zero, List.set_cons_succ]
    refine wpAnyH_take (i := 5) (oi := { dst := some 42, op := Go.Op.binOp Go.BinOp.eql 9 (Go.Operand.tmp 38) (Go.Operand.tmp 41) 9, type := 4, pos := "law.go:39", after := #[{ on := 1, ground := Go.Ground.data }, { on := 4, ground := Go.Ground.data }], guard := none }) (v := ?v5) rfl (by kernel_rfl) (by kernel_rfl) (by kernel_rfl) (fun _ _ _ h => h) (Or.inl ⟨by kernel_rfl, ?h5⟩) (by assumption) ?r5
    case h5 => (intro w hSw; (try dsimp only at hSw); go_simp; try with_reducible rfl)
    try simp only [Act.put, List.setIfInBounds_toArray, List.set_cons_zero, List.set_cons_succ]
    refine wpAnyH_take (i := 6) (oi := { dst := some 43, op := Go.Op.move (Go.Operand.tmp 42), type := 4, pos := "law.go:39", after := #[{ on := 5, ground := Go.Ground.data }, { on := 3, ground := Go.Ground.chain }], guard := none }) (v := ?v6) rfl (by kernel_rfl) (by kernel_rfl) (by kernel_rfl) (fun _ _ _ h => h) (Or.inl ⟨by kernel_rfl, ?h6⟩) (by assumption) ?r6
    case h6 => (intro w hSw; (try dsimp only at hSw); go_simp; try with_reducible rfl)
    try simp only [Act.put, List.setIfInBounds_toArray, List.set_cons_zero, List.set_cons_succ]
    refine wpAnyH_take (i := 7) (oi := { dst := some 44, op := Go.Op.move (Go.Operand.tmp 8), type := 26, pos := "law.go:39", after := #[{ on := 6, ground := Go.Ground.guard }], guard := some (6, true) }) (v := ?v7) rfl (by kernel_rfl) (by kernel_rfl) (by kernel_rfl) (fun _ _ _ h => h) (Or.inl ⟨by kernel_rfl, ?h7⟩) (by assumption) ?r7
    case h7 => (intro w hSw; (try dsimp only at hSw); go_simp; try with_reducible rfl)
    try simp only [Act.put, List.setIfInBounds_toArray, List.set_cons_zero, List.set_cons_succ]
    refine wpAnyH_take (i := 8) (oi := { dst := some 45, op := Go.Op.binOp Go.BinOp.eql 26 (Go.Operand.tmp 44) (Go.Operand.const (Go.Value.int Go.IntKind.i64 0)) 26, type := 4, pos := "law.go:39", after := #[{ on := 7, ground := Go.Ground.data }, { on := 6, ground := Go.Ground.guard }], guard := some (6, true) }) (v := ?v8) rfl (by kernel_rfl) (by kernel_rfl) (by kernel_rfl) (fun _ _ _ h => h) (Or.inl ⟨by kernel_rfl, ?h8⟩) (by assumption) ?r8
    case h8 => (intro w hSw; (try dsimp only at hSw); go_simp; try with_reducible rfl)
    try simp only [Act.put, List.setIfInBounds_toArray, List.set_cons_zero, List.set_cons_succ]
    refine wpAnyH_take (i := 9) (oi := { dst := some 46, op := Go.Op.pick (Go.Operand.tmp 43) (Go.Operand.tmp 45) (Go.Operand.const (Go.Value.bool false)), type := 4, pos := "law.go:39", after := #[{ on := 6, ground := Go.Ground.data }, { on := 8, ground := Go.Ground.data }], guard := none }) (v := ?v9) rfl (by kernel_rfl) (by kernel_rfl) (by kernel_rfl) (fun _ _ _ h => h) (Or.inl ⟨by kernel_rfl, ?h9⟩) (by assumption) ?r9
    case h9 => (intro w hSw; (try dsimp only at hSw); go_simp; try with_reducible rfl)
    try simp only [Act.put, List.setIfInBounds_toArray, List.set_cons_zero, List.set_cons_succ]
    refine wpAnyH_take (i := 10) (oi := { dst := some 47, op := Go.Op.move (Go.Operand.tmp 46), type := 4, pos := "law.go:39", after := #[{ on := 9, ground := Go.Ground.data }, { on := 6, ground := Go.Ground.chain }], guard := none }) (v := ?v10) rfl (by kernel_rfl) (by kernel_rfl) (by kernel_rfl) (fun _ _ _ h => h) (Or.inl ⟨by kernel_rfl, ?h10⟩) (by assumption) ?r10
    case h10 => (intro w hSw; (try dsimp only at hSw); go_simp; try with_reducible rfl)
    try simp only [Act.put, List.setIfInBounds_toArray, List.set_cons_zero, List.set_cons_succ]
    refine wpAnyH_take (i := 11) (oi := { dst := some 48, op := Go.Op.move (Go.Operand.tmp 7), type := 3, pos := "law.go:39", after := #[{ on := 10, ground := Go.Ground.guard }], guard := some (10, true) }) (v := ?v11) rfl (by kernel_rfl) (by kernel_rfl) (by kernel_rfl) (fun _ _ _ h => h) (Or.inl ⟨by kernel_rfl, ?h11⟩) (by assumption) ?r11
    case h11 => (intro w hSw; (try dsimp only at hSw); go_simp; try with_reducible rfl)
    try simp only [Act.put, List.setIfInBounds_toArray, List.set_cons_zero, List.set_cons_succ]
    refine wpAnyH_take (i := 12) (oi := { dst := some 49, op := Go.Op.move (Go.Operand.tmp 3), type := 25, pos := "law.go:39", after := #[{ on := 10, ground := Go.Ground.guard }], guard := some (10, true) }) (v := ?v12) rfl (by kernel_rfl) (by kernel_rfl) (by kernel_rfl) (fun _ _ _ h => h) (Or.inl ⟨by kernel_rfl, ?h12⟩) (by assumption) ?r12
    case h12 => (intro w hSw; (try dsimp only at hSw); go_simp; try with_reducible rfl)
    try simp only [Act.put, List.setIfInBounds_toArray, List.set_cons_zero, List.set_cons_succ]
    refine wpAnyH_take (i := 13) (oi := { dst := some 50, op := Go.Op.call { callee := Go.Callee.builtin Go.Builtin.len, args := #[Go.Operand.tmp 49], argTypes := #[25] }, type := 3, pos := "law.go:39", after := #[{ on := 12, ground := Go.Ground.data }, { on := 10, ground := Go.Ground.guard }], guard := some (10, true) }) (v := ?v13) rfl (by kernel_rfl) (by kernel_rfl) (by kernel_rfl) (fun _ _ _ h => h) (Or.inl ⟨by kernel_rfl, ?h13⟩) (by assumption) ?r13
    case h13 => (intro w hSw; (try dsimp only at hSw); go_simp; try with_reducible rfl)
    try simp only [Act.put, List.setIfInBounds_toArray, List.set_cons_zero, List.set_cons_succ]
    refine wpAnyH_take (i := 14) (oi := { dst := some 51, op := Go.Op.binOp Go.BinOp.eql 3 (Go.Operand.tmp 48) (Go.Operand.tmp 50) 3, type := 4, pos := "law.go:39", after := #[{ on := 11, ground := Go.Ground.data }, { on := 13, ground := Go.Ground.data }, { on := 10, ground := Go.Ground.guard }], guard := some (10, true) }) (v := ?v14) rfl (by kernel_rfl) (by kernel_rfl) (by kernel_rfl) (fun _ _ _ h => h) (Or.inl ⟨by kernel_rfl, ?h14⟩) (by assumption) ?r14
    case h14 => (intro w hSw; (try dsimp only at hSw); go_simp; try with_reducible rfl)
    try simp only [Act.put, List.setIfInBounds_toArray, List.set_cons_zero, List.set_cons_succ]
    refine wpAnyH_take (i := 15) (oi := { dst := some 52, op := Go.Op.pick (Go.Operand.tmp 47) (Go.Operand.tmp 51) (Go.Operand.const (Go.Value.bool false)), type := 4, pos := "law.go:39", after := #[{ on := 10, ground := Go.Ground.data }, { on := 14, ground := Go.Ground.data }], guard := none }) (v := ?v15) rfl (by kernel_rfl) (by kernel_rfl) (by kernel_rfl) (fun _ _ _ h => h) (Or.inl ⟨by kernel_rfl, ?h15⟩) (by assumption) ?r15
    case h15 => (intro w hSw; (try dsimp only at hSw); go_simp; try with_reducible rfl)
    try simp only [Act.put, List.setIfInBounds_toArray, List.set_cons_zero, List.set_cons_succ]
    refine wpAnyH_take (i := 16) (oi := { dst := some 53, op := Go.Op.move (Go.Operand.tmp 52), type := 4, pos := "law.go:39", after := #[{ on := 15, ground := Go.Ground.data }, { on := 10, ground := Go.Ground.chain }], guard := none }) (v := ?v16) rfl (by kernel_rfl) (by kernel_rfl) (by kernel_rfl) (fun _ _ _ h => h) (Or.inl ⟨by kernel_rfl, ?h16⟩) (by assumption) ?r16
    case h16 => (intro w hSw; (try dsimp only at hSw); go_simp; try with_reducible rfl)
    try simp only [Act.put, List.setIfInBounds_toArray, List.set_cons_zero, List.set_cons_succ]
    refine wpAnyH_take (i := 17) (oi := { dst := some 54, op := Go.Op.move (Go.Operand.tmp 0), type := 22, pos := "law.go:39", after := #[{ on := 16, ground := Go.Ground.guard }], guard := some (16, true) }) (v := ?v17) rfl (by kernel_rfl) (by kernel_rfl) (by kernel_rfl) (fun _ _ _ h => h) (Or.inl ⟨by kernel_rfl, ?h17⟩) (by assumption) ?r17
    case h17 => (intro w hSw; (try dsimp only at hSw); go_simp; try with_reducible rfl)
    try simp only [Act.put, List.setIfInBounds_toArray, List.set_cons_zero, List.set_cons_succ]
    refine wpAnyH_take (i := 18) (oi := { dst := some 55, op := Go.Op.move (Go.Operand.tmp 6), type := 22, pos := "law.go:39", after := #[{ on := 16, ground := Go.Ground.guard }], guard := some (16, true) }) (v := ?v18) rfl (by kernel_rfl) (by kernel_rfl) (by kernel_rfl) (fun _ _ _ h => h) (Or.inl ⟨by kernel_rfl, ?h18⟩) (by assumption) ?r18
    case h18 => (intro w hSw; (try dsimp only at hSw); go_simp; try with_reducible rfl)
    try simp only [Act.put, List.setIfInBounds_toArray, List.set_cons_zero, List.set_cons_succ]
    refine wpAnyH_ready (rs := [19]) (by kernel_rfl) (by simp) ?_
    refine AllReadyH.cons (o := { dst := some 56, op := Go.Op.call { callee := Go.Callee.value (Go.Operand.func 14), args := #[Go.Operand.tmp 54, Go.Operand.tmp 55], argTypes := #[22, 22] }, type := 4, pos := "law.go:39", after := #[{ on := 17, ground := Go.Ground.data }, { on := 18, ground := Go.Ground.data }, { on := 16, ground := Go.Ground.chain }, { on := 16, ground := Go.Ground.guard }], guard := some (16, true) }) rfl (fun K hK => ?_) AllReadyH.nil
    go_simp
    have hb45 := B4.out.trans (hb3.mono B4.out.size)
    refine (hsm.out a4 c4 ls w5 hb45 hls'.out ((s4'.out.below hb3).mono hb3.size)).mono ?_
    rintro e w6 ⟨rfl, b6⟩
    have hb19 : Below w5.heap.size w5 w6 := b6
    go_simp
    refine hK.out _ _ (hb19) (fun hHeld => ?_)
    clear hK K
    try simp only [Act.put, List.setIfInBounds_toArray, List.set_cons_zero, List.set_cons_succ]
    refine wpAnyH_now hHeld (fun hHeld => ?_)
    replace hcv4 := rebase hcv4 (hb19)
    replace hcv5 := rebase hcv5 (hb19)
    refine wpAnyH_take (i := 20) (oi := { dst := some 57, op := Go.Op.pick (Go.Operand.tmp 53) (Go.Operand.tmp 56) (Go.Operand.const (Go.Value.bool false)), type := 4, pos := "law.go:39", after := #[{ on := 16, ground := Go.Ground.data }, { on := 19, ground := Go.Ground.data }], guard := none }) (v := ?v19) rfl (by kernel_rfl) (by kernel_rfl) (by kernel_rfl) (fun _ _ _ h => h) (Or.inl ⟨by kernel_rfl, ?h19⟩) (by assumption) ?r19
    case h19 => (intro w hSw; (try dsimp only at hSw); go_simp; try with_reducible rfl)
    try simp only [Act.put, List.setIfInBounds_toArray, List.set_cons_zero, List.set_cons_succ]
    refine wpAnyH_take (i := 21) (oi := { dst := some 2, op := Go.Op.assign (Go.Operand.tmp 57), type := 4, pos := "law.go:39", after := #[{ on := 20, ground := Go.Ground.data }, { on := 19, ground := Go.Ground.chain }, { on := 0, ground := Go.Ground.phase }, { on := 1, ground := Go.Ground.phase }, { on := 2, ground := Go.Ground.phase }, { on := 3, ground := Go.Ground.phase }, { on := 4, ground := Go.Ground.phase }, { on := 5, ground := Go.Ground.phase }, { on := 6, ground := Go.Ground.phase }, { on := 7, ground := Go.Ground.phase }, { on := 8, ground := Go.Ground.phase }, { on := 9, ground := Go.Ground.phase }, { on := 10, ground := Go.Ground.phase }, { on := 11, ground := Go.Ground.phase }, { on := 12, ground := Go.Ground.phase }, { on := 13, ground := Go.Ground.phase }, { on := 14, ground := Go.Ground.phase }, { on := 15, ground := Go.Ground.phase }, { on := 16, ground := Go.Ground.phase }, { on := 17, ground := Go.Ground.phase }, { on := 18, ground := Go.Ground.phase }, { on := 19, ground := Go.Ground.phase }, { on := 20, ground := Go.Ground.phase }], guard := none }) (v := ?v20) rfl (by kernel_rfl) (by kernel_rfl) (by kernel_rfl) (fun _ _ _ h => h) (Or.inl ⟨by kernel_rfl, ?h20⟩) (by assumption) ?r20
    case h20 => (intro w hSw; (try dsimp only at hSw); go_simp; try with_reducible rfl)
    try simp only [Act.put, List.setIfInBounds_toArray, List.set_cons_zero, List.set_cons_succ]
    refine wpAnyH_done (by kernel_rfl) ?_ _
    go_wp2
    go_ret
    have q1 := b1'.out.trans (B4.out.mono b1'.out.size)
    have q2 := q1.trans (hb3.mono q1.size)
    exact ⟨rfl, q2.trans (hb19.mono q2.size)⟩
  · have hck := Lib.hid (rcheck_any ro L len co hLn'.out.symm (by omega) w1 ((hsec'.out.below b1).mono b1.size))
    have b1' := Lib.hid b1
    clear b1 hput hsec' hP hPb hbs hM
    generalize checkL (L.map absS) = y at *
    have y1 : (y == 0) = false := by simpa using hc0
    have y2 : (y != 0) = true := by simpa using hc0
    go_wp2_with fail
    refine hck.out.mono ?_
    rintro e w2 ⟨rfl, rfl⟩
    clear hck
    go_wp2_with fail
    refine (slives_any _).mono ?_
    rintro e w3 ⟨rfl, b3⟩
    have b3' := Lib.hid (b1'.out.trans (b3.mono b1'.out.size))
    clear b3
    go_wp2
    go_ret
    exact ⟨rfl, b3'.out⟩
end Go.Proofs.Ytnjdgnlgdokddaa
