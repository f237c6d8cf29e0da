/- Zones: the document's Holds, Has; Point. -/
import Derived.Test.YtmfdkffekgodgaaDbmHas
namespace Go.Proofs.Ytmfdkffekgodgaa
open Go.RowKit
set_option linter.unusedVariables false
set_option linter.unusedSimpArgs false

def holdsB (l v : List Int) : Bool := decide (l.length = sz v.length) && (!v.any farB && cellsB v.length l v)
set_option maxRecDepth 100000 in
set_option maxHeartbeats 1000000 in
theorem holds_any (a : Option Addr) (m c : Nat) (l : List Int) (av : Option Addr) (mv cv : Nat) (v : List Int) (hv8 : mv ≤ 8) (w : World) (h : SL w a m c l) (hv : SL w av mv cv v) :
    Calls Try.prog 23 #[.slice a m c, .slice av mv cv] w (ReadsV (.bool (holdsB l v)) w) := by
  have hs81 := sz_le hv8
  have hni : (mv : Int) ≤ 8 := by omega
  have hmi : (m : Int) ≤ 9223372036854775807 := by have := h.max; omega
  have v1 : IntKind.i64.wrap ((mv : Int) + 1) = (mv : Int) + 1 := wrap_small (by omega) (by omega)
  have v2 : IntKind.i64.wrap (((mv : Int) + 1) * ((mv : Int) + 1)) = (sz mv : Nat) := by rw [sz_int]; exact wrap_small (by omega) (by omega)
  have h8' := Lib.hid hv8
  have hdef : Hid (holdsB l v = (decide (l.length = sz mv) && (!v.any farB && cellsB mv l v))) := Lib.hid (by unfold holdsB; rw [hv.len])
  have hh := Lib.hid h
  have hvh := Lib.hid hv
  clear h hv hv8
  generalize holdsB l v = R at *
  by_cases hms : m = sz mv
  · have hms' := Lib.hid hms
    have hR1 : Hid (R = (!v.any farB && cellsB mv l v)) := Lib.hid (by rw [hdef.out, ← hh.out.len, decide_eq_true hms, Bool.true_and])
    rw [← hms] at v2
    clear hdef hms
    go_enter Try.func23, Try.ntmps23
    go_wp2
    go_loop [6] (fun x => ∃ k : Nat, k ≤ mv ∧ x = .int .i64 k ∧ Hid (∀ t, t < k → farB (v.getD t 0) = false)) (fun x => mv - (intOf x).toNat)
    case atStart => exact ⟨0, Nat.zero_le _, rfl, Lib.hid (by intro t ht; omega)⟩
    case round =>
      obtain ⟨k, hk, rfl, hall⟩ := hrel
      by_cases hlt : k < mv
      · have hkl : k < v.length := by have := hvh.out.len; omega
        obtain ⟨b, off, rfl, -, hc⟩ := sees_at' hvh.out.sees (i := k) hkl
        have hki : (k : Int) < (mv : Int) := by omega
        have hcall := Lib.hid (is_any (v.getD k 0) w)
        have hyes : Hid (farB (v.getD k 0) = true → R = false) := Lib.hid (fun hx => by
          have : v.any farB = true := List.any_eq_true.2 ⟨v.getD k 0, by simp [List.getD, hkl], hx⟩
          rw [hR1.out, this]; rfl)
        have hnext : Hid (farB (v.getD k 0) = false → ∀ j, j < k + 1 → farB (v.getD j 0) = false) := Lib.hid (fun hx j hj => by
          by_cases e : j = k
          · subst e; exact hx
          · exact hall.out j (by omega))
        clear hall hkl
        generalize v.getD k 0 = x at *
        generalize farB x = y at *
        cases y
        · have hn2 := Lib.hid (hnext.out rfl)
          clear hyes hnext
          rw [Bool.not_false] at hcall
          go_wp2_with fail
          refine hcall.out.mono ?_
          rintro e w1 ⟨rfl, rfl⟩
          go_wp2
          go_round
          case rel => exact ⟨k + 1, by omega, by go_num, hn2⟩
          case measure => simp [intOf]; omega
        · have hr := hyes.out rfl
          subst hr
          clear hyes hnext hR1
          rw [Bool.not_true] at hcall
          go_wp2_with fail
          refine hcall.out.mono ?_
          rintro e w1 ⟨rfl, rfl⟩
          go_wp2
          go_ret
          exact ⟨rfl, 0, rfl⟩
      · have hfar : Hid (v.any farB = false) := Lib.hid (by
          rw [List.any_eq_false]
          intro x hx
          obtain ⟨j, hj, rfl⟩ := List.getElem_of_mem hx
          have := hall.out j (by have := hvh.out.len; omega)
          simpa [List.getD, hj] using this)
        have hR : Hid (R = cellsB mv l v) := Lib.hid (by rw [hR1.out, hfar.out]; rfl)
        clear hall hR1
        go_wp2
        go_loopw [7] (fun x W => ∃ i m2 : Nat, i ≤ mv + 1 ∧ x = .int .i64 i ∧ Hid (∀ t, t < i * (mv + 1) → cellB mv l v t = true) ∧ W = w.drewN m2) (fun x _ => mv + 1 - (intOf x).toNat)
        case atStart => exact ⟨0, 0, by omega, rfl, Lib.hid (by intro t ht; omega), rfl⟩
        case round =>
          obtain ⟨i, m2, hin, rfl, hall, rfl⟩ := hrel
          by_cases hlt2 : i < mv + 1
          · have hii : (i : Int) ≤ (mv : Int) := by omega
            go_wp2
            go_loopw [8] (fun x W => ∃ j m2 : Nat, j ≤ mv + 1 ∧ x = .int .i64 j ∧ Hid (∀ t, t < i * (mv + 1) + j → cellB mv l v t = true) ∧ W = w.drewN m2) (fun x _ => mv + 1 - (intOf x).toNat)
            case atStart => exact ⟨0, m2, by omega, rfl, hall, rfl⟩
            case round =>
              clear hall
              obtain ⟨j, m2, hjn, rfl, hall, rfl⟩ := hrel
              by_cases hjt : j < mv + 1
              · have hji : (j : Int) ≤ (mv : Int) := by omega
                obtain ⟨p, q, w1, w2, w3, hq, hqs, -, -, -⟩ := place_wraps h8'.out (show i ≤ mv by omega) (show j ≤ mv by omega)
                obtain ⟨b, off, rfl, -, hc⟩ := sees_at' (hh.out.sees.drewN m2) (i := q) (by have := hh.out.len; have := hms'.out; omega)
                have hqm : (q : Int) < (m : Int) := by have := hms'.out; omega
                have b1 := val_in hfar.out i
                have b2 := val_in hfar.out j
                have hx := Lib.hid (fun W (hW : ∃ k, W = w.drewN k) => refval_any av v mv cv hvh.out.len (by omega) i (by omega) w.heap.size W (by obtain ⟨k, rfl⟩ := hW; exact hvh.out.sees.drewN k))
                have hy := Lib.hid (fun W (hW : ∃ k, W = w.drewN k) => refval_any av v mv cv hvh.out.len (by omega) j (by omega) w.heap.size W (by obtain ⟨k, rfl⟩ := hW; exact hvh.out.sees.drewN k))
                have hcb : Hid (cellB mv l v q = decide (valF v i - valF v j ≤ l.getD q 0)) := Lib.hid (by unfold cellB; rw [hq, place_div (by omega), place_mod (by omega)])
                have hno : Hid (cellB mv l v q = false → R = false) := Lib.hid (fun z => by rw [hR.out]; exact cellsB_no hqs z)
                have hyes : Hid (cellB mv l v q = true → ∀ t, t < i * (mv + 1) + (j + 1) → cellB mv l v t = true) := Lib.hid (fun z t ht => by
                  by_cases e : t = q
                  · subst e; exact z
                  · exact hall.out t (by omega))
                have hc2 : ∀ W, (∃ k, W = w.drewN k) → W.cell? ⟨b, off + q, none⟩ = some (.int .i64 (l.getD q 0)) := by rintro W ⟨k, rfl⟩; exact hc
                clear hall hq hqs hc
                generalize l.getD q 0 = z at *
                generalize valF v i = x at *
                generalize valF v j = y at *
                generalize cellB mv l v q = u at *
                have hw : IntKind.i64.wrap (x - y) = x - y := wrap_small (by omega) (by omega)
                have hcc := hc2 _ ⟨m2, rfl⟩
                by_cases hxy : z < x - y
                · have hu : u = false := by rw [hcb.out, decide_eq_false_iff_not]; omega
                  have hr := hno.out hu
                  subst hr
                  clear hno hyes hcb hR
                  go_wp2
                  refine wp_drawn_on (fun W => ∃ k, W = w.drewN k) (by kernel_rfl) (⟨m2 + 1, rfl⟩) (fun hHeld => ?_)
                  refine wpAnyH_take (i := 0) (oi := { dst := some 40, op := Go.Op.move (Go.Operand.tmp 1), type := 22, pos := "ref.go:126", after := #[], guard := none }) (v := ?v1) rfl (by kernel_rfl) (by kernel_rfl) (by kernel_rfl) (fun _ _ _ h => h) (Or.inl ⟨by kernel_rfl, ?h1⟩) (by assumption) ?r1
                  case h1 => (intro w hSw; (try dsimp only at hSw); go_simp; try with_reducible rfl)
                  try simp only [Act.put, List.setIfInBounds_toArray, List.set_cons_zero, List.set_cons_succ]
                  refine wpAnyH_take (i := 1) (oi := { dst := some 41, op := Go.Op.move (Go.Operand.tmp 7), type := 3, pos := "ref.go:126", after := #[], guard := none }) (v := ?v2) rfl (by kernel_rfl) (by kernel_rfl) (by kernel_rfl) (fun _ _ _ h => h) (Or.inl ⟨by kernel_rfl, ?h2⟩) (by assumption) ?r2
                  case h2 => (intro w hSw; (try dsimp only at hSw); go_simp; try with_reducible rfl)
                  try simp only [Act.put, List.setIfInBounds_toArray, List.set_cons_zero, List.set_cons_succ]
                  refine wpAnyH_take (i := 3) (oi := { dst := some 43, op := Go.Op.move (Go.Operand.tmp 1), type := 22, pos := "ref.go:126", after := #[], guard := none }) (v := ?v3) rfl (by kernel_rfl) (by kernel_rfl) (by kernel_rfl) (fun _ _ _ h => h) (Or.inl ⟨by kernel_rfl, ?h3⟩) (by assumption) ?r3
                  case h3 => (intro w hSw; (try dsimp only at hSw); go_simp; try with_reducible rfl)
                  try simp only [Act.put, List.setIfInBounds_toArray, List.set_cons_zero, List.set_cons_succ]
                  refine wpAnyH_take (i := 4) (oi := { dst := some 44, op := Go.Op.move (Go.Operand.tmp 8), type := 3, pos := "ref.go:126", after := #[], guard := none }) (v := ?v4) rfl (by kernel_rfl) (by kernel_rfl) (by kernel_rfl) (fun _ _ _ h => h) (Or.inl ⟨by kernel_rfl, ?h4⟩) (by assumption) ?r4
                  case h4 => (intro w hSw; (try dsimp only at hSw); go_simp; try with_reducible rfl)
                  try simp only [Act.put, List.setIfInBounds_toArray, List.set_cons_zero, List.set_cons_succ]
                  refine wpAnyH_take (i := 7) (oi := { dst := some 47, op := Go.Op.move (Go.Operand.tmp 0), type := 22, pos := "ref.go:126", after := #[], guard := none }) (v := ?v5) rfl (by kernel_rfl) (by kernel_rfl) (by kernel_rfl) (fun _ _ _ h => h) (Or.inl ⟨by kernel_rfl, ?h5⟩) (by assumption) ?r5
                  case h5 => (intro w hSw; (try dsimp only at hSw); go_simp; try with_reducible rfl)
                  try simp only [Act.put, List.setIfInBounds_toArray, List.set_cons_zero, List.set_cons_succ]
                  refine wpAnyH_take (i := 8) (oi := { dst := some 48, op := Go.Op.move (Go.Operand.tmp 7), type := 3, pos := "ref.go:126", after := #[], guard := none }) (v := ?v6) rfl (by kernel_rfl) (by kernel_rfl) (by kernel_rfl) (fun _ _ _ h => h) (Or.inl ⟨by kernel_rfl, ?h6⟩) (by assumption) ?r6
                  case h6 => (intro w hSw; (try dsimp only at hSw); go_simp; try with_reducible rfl)
                  try simp only [Act.put, List.setIfInBounds_toArray, List.set_cons_zero, List.set_cons_succ]
                  refine wpAnyH_take (i := 9) (oi := { dst := some 49, op := Go.Op.move (Go.Operand.tmp 5), type := 3, pos := "ref.go:126", after := #[], guard := none }) (v := ?v7) rfl (by kernel_rfl) (by kernel_rfl) (by kernel_rfl) (fun _ _ _ h => h) (Or.inl ⟨by kernel_rfl, ?h7⟩) (by assumption) ?r7
                  case h7 => (intro w hSw; (try dsimp only at hSw); go_simp; try with_reducible rfl)
                  try simp only [Act.put, List.setIfInBounds_toArray, List.set_cons_zero, List.set_cons_succ]
                  refine wpAnyH_take (i := 10) (oi := { dst := some 50, op := Go.Op.binOp Go.BinOp.add 3 (Go.Operand.tmp 49) (Go.Operand.const (Go.Value.int Go.IntKind.i64 1)) 3, type := 3, pos := "ref.go:126", after := #[{ on := 9, ground := Go.Ground.data }], guard := none }) (v := ?v8) rfl (by kernel_rfl) (by kernel_rfl) (by kernel_rfl) (fun _ _ _ h => h) (Or.inl ⟨by kernel_rfl, ?h8⟩) (by assumption) ?r8
                  case h8 => (intro w hSw; (try dsimp only at hSw); go_simp; try with_reducible rfl)
                  try simp only [Act.put, List.setIfInBounds_toArray, List.set_cons_zero, List.set_cons_succ]
                  refine wpAnyH_take (i := 11) (oi := { dst := some 51, op := Go.Op.binOp Go.BinOp.mul 3 (Go.Operand.tmp 48) (Go.Operand.tmp 50) 3, type := 3, pos := "ref.go:126", after := #[{ on := 8, ground := Go.Ground.data }, { on := 10, ground := Go.Ground.data }], guard := none }) (v := ?v9) rfl (by kernel_rfl) (by kernel_rfl) (by kernel_rfl) (fun _ _ _ h => h) (Or.inl ⟨by kernel_rfl, ?h9⟩) (by assumption) ?r9
                  case h9 => (intro w hSw; (try dsimp only at hSw); go_simp; try with_reducible rfl)
                  try simp only [Act.put, List.setIfInBounds_toArray, List.set_cons_zero, List.set_cons_succ]
                  refine wpAnyH_take (i := 12) (oi := { dst := some 52, op := Go.Op.move (Go.Operand.tmp 8), type := 3, pos := "ref.go:126", after := #[], guard := none }) (v := ?v10) rfl (by kernel_rfl) (by kernel_rfl) (by kernel_rfl) (fun _ _ _ h => h) (Or.inl ⟨by kernel_rfl, ?h10⟩) (by assumption) ?r10
                  case h10 => (intro w hSw; (try dsimp only at hSw); go_simp; try with_reducible rfl)
                  try simp only [Act.put, List.setIfInBounds_toArray, List.set_cons_zero, List.set_cons_succ]
                  refine wpAnyH_take (i := 13) (oi := { dst := some 53, op := Go.Op.binOp Go.BinOp.add 3 (Go.Operand.tmp 51) (Go.Operand.tmp 52) 3, type := 3, pos := "ref.go:126", after := #[{ on := 11, ground := Go.Ground.data }, { on := 12, ground := Go.Ground.data }], guard := none }) (v := ?v11) rfl (by kernel_rfl) (by kernel_rfl) (by kernel_rfl) (fun _ _ _ h => h) (Or.inl ⟨by kernel_rfl, ?h11⟩) (by assumption) ?r11
                  case h11 => (intro w hSw; (try dsimp only at hSw); go_simp; try with_reducible rfl)
                  try simp only [Act.put, List.setIfInBounds_toArray, List.set_cons_zero, List.set_cons_succ]
                  refine wpAnyH_take (i := 14) (oi := { dst := some 54, op := Go.Op.indexAddr 22 (Go.Operand.tmp 47) (Go.Operand.tmp 53), type := 0, pos := "ref.go:126", after := #[{ on := 7, ground := Go.Ground.data }, { on := 13, ground := Go.Ground.data }], guard := none }) (v := ?v12) rfl (by kernel_rfl) (by kernel_rfl) (by kernel_rfl) (fun _ _ _ h => h) (Or.inl ⟨by kernel_rfl, ?h12⟩) (by assumption) ?r12
                  case h12 => (intro w hSw; (try dsimp only at hSw); go_simp; try with_reducible rfl)
                  try simp only [Act.put, List.setIfInBounds_toArray, List.set_cons_zero, List.set_cons_succ]
                  refine wpAnyH_take (i := 15) (oi := { dst := some 55, op := Go.Op.load 3 (Go.Operand.tmp 54), type := 3, pos := "ref.go:126", after := #[{ on := 14, ground := Go.Ground.data }], guard := none }) (v := ?v13) rfl (by kernel_rfl) (by kernel_rfl) (by kernel_rfl) (fun _ _ _ h => h) (Or.inl ⟨by kernel_rfl, ?h13⟩) (by assumption) ?r13
                  case h13 => (intro w hSw; (try dsimp only at hSw); go_simp; try with_reducible rfl)
                  try simp only [Act.put, List.setIfInBounds_toArray, List.set_cons_zero, List.set_cons_succ]
                  refine wpAnyH_ready (rs := [2]) (by kernel_rfl) (by simp) ?_
                  refine AllReadyH.cons (o := { dst := some 42, op := Go.Op.call { callee := Go.Callee.value (Go.Operand.func 39), args := #[Go.Operand.tmp 40, Go.Operand.tmp 41], argTypes := #[22, 3] }, type := 3, pos := "ref.go:126", after := #[{ on := 0, ground := Go.Ground.data }, { on := 1, ground := Go.Ground.data }], guard := none }) rfl (fun K hK => ?_) AllReadyH.nil
                  go_simp
                  refine (hx.out _ hHeld).mono ?_
                  rintro e w1 ⟨rfl, rfl⟩
                  go_simp
                  refine hK.out _ _ (hHeld) (fun hHeld => ?_)
                  clear hK K
                  try simp only [Act.put, List.setIfInBounds_toArray, List.set_cons_zero, List.set_cons_succ]
                  refine wpAnyH_ready (rs := [5]) (by kernel_rfl) (by simp) ?_
                  refine AllReadyH.cons (o := { dst := some 45, op := Go.Op.call { callee := Go.Callee.value (Go.Operand.func 39), args := #[Go.Operand.tmp 43, Go.Operand.tmp 44], argTypes := #[22, 3] }, type := 3, pos := "ref.go:126", after := #[{ on := 3, ground := Go.Ground.data }, { on := 4, ground := Go.Ground.data }, { on := 2, ground := Go.Ground.chain }], guard := none }) rfl (fun K hK => ?_) AllReadyH.nil
                  go_simp
                  refine (hy.out _ hHeld).mono ?_
                  rintro e w1 ⟨rfl, rfl⟩
                  go_simp
                  refine hK.out _ _ (hHeld) (fun hHeld => ?_)
                  clear hK K
                  try simp only [Act.put, List.setIfInBounds_toArray, List.set_cons_zero, List.set_cons_succ]
                  refine wpAnyH_take (i := 6) (oi := { dst := some 46, op := Go.Op.binOp Go.BinOp.sub 3 (Go.Operand.tmp 42) (Go.Operand.tmp 45) 3, type := 3, pos := "ref.go:126", after := #[{ on := 2, ground := Go.Ground.data }, { on := 5, ground := Go.Ground.data }], guard := none }) (v := ?v14) rfl (by kernel_rfl) (by kernel_rfl) (by kernel_rfl) (fun _ _ _ h => h) (Or.inl ⟨by kernel_rfl, ?h14⟩) (by assumption) ?r14
                  case h14 => (intro w hSw; (try dsimp only at hSw); go_simp; try with_reducible rfl)
                  try simp only [Act.put, List.setIfInBounds_toArray, List.set_cons_zero, List.set_cons_succ]
                  refine wpAnyH_take (i := 16) (oi := { dst := some 56, op := Go.Op.binOp Go.BinOp.gtr 3 (Go.Operand.tmp 46) (Go.Operand.tmp 55) 3, type := 4, pos := "ref.go:126", after := #[{ on := 6, ground := Go.Ground.data }, { on := 15, ground := Go.Ground.data }], guard := none }) (v := ?v15) rfl (by kernel_rfl) (by kernel_rfl) (by kernel_rfl) (fun _ _ _ h => h) (Or.inl ⟨by kernel_rfl, ?h15⟩) (by assumption) ?r15
                  case h15 => (intro w hSw; (try dsimp only at hSw); go_simp; try with_reducible rfl)
                  try simp only [Act.put, List.setIfInBounds_toArray, List.set_cons_zero, List.set_cons_succ]
                  refine wpAnyH_done (by kernel_rfl) ?_ _
                  go_wp2
                  go_ret
                  exact ⟨rfl, hHeld⟩
                · have hu : u = true := by rw [hcb.out, decide_eq_true_eq]; omega
                  have hn2 := Lib.hid (hyes.out hu)
                  clear hno hyes hcb
                  go_wp2
                  refine wp_drawn_on (fun W => ∃ k, W = w.drewN k) (by kernel_rfl) (⟨m2 + 1, rfl⟩) (fun hHeld => ?_)
                  refine wpAnyH_take (i := 0) (oi := { dst := some 40, op := Go.Op.move (Go.Operand.tmp 1), type := 22, pos := "ref.go:126", after := #[], guard := none }) (v := ?v16) rfl (by kernel_rfl) (by kernel_rfl) (by kernel_rfl) (fun _ _ _ h => h) (Or.inl ⟨by kernel_rfl, ?h16⟩) (by assumption) ?r16
                  case h16 => (intro w hSw; (try dsimp only at hSw); go_simp; try with_reducible rfl)
                  try simp only [Act.put, List.setIfInBounds_toArray, List.set_cons_zero, List.set_cons_succ]
                  refine wpAnyH_take (i := 1) (oi := { dst := some 41, op := Go.Op.move (Go.Operand.tmp 7), type := 3, pos := "ref.go:126", after := #[], guard := none }) (v := ?v17) rfl (by kernel_rfl) (by kernel_rfl) (by kernel_rfl) (fun _ _ _ h => h) (Or.inl ⟨by kernel_rfl, ?h17⟩) (by assumption) ?r17
                  case h17 => (intro w hSw; (try dsimp only at hSw); go_simp; try with_reducible rfl)
                  try simp only [Act.put, List.setIfInBounds_toArray, List.set_cons_zero, List.set_cons_succ]
                  refine wpAnyH_take (i := 3) (oi := { dst := some 43, op := Go.Op.move (Go.Operand.tmp 1), type := 22, pos := "ref.go:126", after := #[], guard := none }) (v := ?v18) rfl (by kernel_rfl) (by kernel_rfl) (by kernel_rfl) (fun _ _ _ h => h) (Or.inl ⟨by kernel_rfl, ?h18⟩) (by assumption) ?r18
                  case h18 => (intro w hSw; (try dsimp only at hSw); go_simp; try with_reducible rfl)
                  try simp only [Act.put, List.setIfInBounds_toArray, List.set_cons_zero, List.set_cons_succ]
                  refine wpAnyH_take (i := 4) (oi := { dst := some 44, op := Go.Op.move (Go.Operand.tmp 8), type := 3, pos := "ref.go:126", after := #[], guard := none }) (v := ?v19) rfl (by kernel_rfl) (by kernel_rfl) (by kernel_rfl) (fun _ _ _ h => h) (Or.inl ⟨by kernel_rfl, ?h19⟩) (by assumption) ?r19
                  case h19 => (intro w hSw; (try dsimp only at hSw); go_simp; try with_reducible rfl)
                  try simp only [Act.put, List.setIfInBounds_toArray, List.set_cons_zero, List.set_cons_succ]
                  refine wpAnyH_take (i := 7) (oi := { dst := some 47, op := Go.Op.move (Go.Operand.tmp 0), type := 22, pos := "ref.go:126", after := #[], guard := none }) (v := ?v20) rfl (by kernel_rfl) (by kernel_rfl) (by kernel_rfl) (fun _ _ _ h => h) (Or.inl ⟨by kernel_rfl, ?h20⟩) (by assumption) ?r20
                  case h20 => (intro w hSw; (try dsimp only at hSw); go_simp; try with_reducible rfl)
                  try simp only [Act.put, List.setIfInBounds_toArray, List.set_cons_zero, List.set_cons_succ]
                  refine wpAnyH_take (i := 8) (oi := { dst := some 48, op := Go.Op.move (Go.Operand.tmp 7), type := 3, pos := "ref.go:126", after := #[], guard := none }) (v := ?v21) rfl (by kernel_rfl) (by kernel_rfl) (by kernel_rfl) (fun _ _ _ h => h) (Or.inl ⟨by kernel_rfl, ?h21⟩) (by assumption) ?r21
                  case h21 => (intro w hSw; (try dsimp only at hSw); go_simp; try with_reducible rfl)
                  try simp only [Act.put, List.setIfInBounds_toArray, List.set_cons_zero, List.set_cons_succ]
                  refine wpAnyH_take (i := 9) (oi := { dst := some 49, op := Go.Op.move (Go.Operand.tmp 5), type := 3, pos := "ref.go:126", after := #[], guard := none }) (v := ?v22) rfl (by kernel_rfl) (by kernel_rfl) (by kernel_rfl) (fun _ _ _ h => h) (Or.inl ⟨by kernel_rfl, ?h22⟩) (by assumption) ?r22
                  case h22 => (intro w hSw; (try dsimp only at hSw); go_simp; try with_reducible rfl)
                  try simp only [Act.put, List.setIfInBounds_toArray, List.set_cons_zero, List.set_cons_succ]
                  refine wpAnyH_take (i := 10) (oi := { dst := some 50, op := Go.Op.binOp Go.BinOp.add 3 (Go.Operand.tmp 49) (Go.Operand.const (Go.Value.int Go.IntKind.i64 1)) 3, type := 3, pos := "ref.go:126", after := #[{ on := 9, ground := Go.Ground.data }], guard := none }) (v := ?v23) rfl (by kernel_rfl) (by kernel_rfl) (by kernel_rfl) (fun _ _ _ h => h) (Or.inl ⟨by kernel_rfl, ?h23⟩) (by assumption) ?r23
                  case h23 => (intro w hSw; (try dsimp only at hSw); go_simp; try with_reducible rfl)
                  try simp only [Act.put, List.setIfInBounds_toArray, List.set_cons_zero, List.set_cons_succ]
                  refine wpAnyH_take (i := 11) (oi := { dst := some 51, op := Go.Op.binOp Go.BinOp.mul 3 (Go.Operand.tmp 48) (Go.Operand.tmp 50) 3, type := 3, pos := "ref.go:126", after := #[{ on := 8, ground := Go.Ground.data }, { on := 10, ground := Go.Ground.data }], guard := none }) (v := ?v24) rfl (by kernel_rfl) (by kernel_rfl) (by kernel_rfl) (fun _ _ _ h => h) (Or.inl ⟨by kernel_rfl, ?h24⟩) (by assumption) ?r24
                  case h24 => (intro w hSw; (try dsimp only at hSw); go_simp; try with_reducible rfl)
                  try simp only [Act.put, List.setIfInBounds_toArray, List.set_cons_zero, List.set_cons_succ]
                  refine wpAnyH_take (i := 12) (oi := { dst := some 52, op := Go.Op.move (Go.Operand.tmp 8), type := 3, pos := "ref.go:126", after := #[], guard := none }) (v := ?v25) rfl (by kernel_rfl) (by kernel_rfl) (by kernel_rfl) (fun _ _ _ h => h) (Or.inl ⟨by kernel_rfl, ?h25⟩) (by assumption) ?r25
                  case h25 => (intro w hSw; (try dsimp only at hSw); go_simp; try with_reducible rfl)
                  try simp only [Act.put, List.setIfInBounds_toArray, List.set_cons_zero, List.set_cons_succ]
                  refine wpAnyH_take (i := 13) (oi := { dst := some 53, op := Go.Op.binOp Go.BinOp.add 3 (Go.Operand.tmp 51) (Go.Operand.tmp 52) 3, type := 3, pos := "ref.go:126", after := #[{ on := 11, ground := Go.Ground.data }, { on := 12, ground := Go.Ground.data }], guard := none }) (v := ?v26) rfl (by kernel_rfl) (by kernel_rfl) (by kernel_rfl) (fun _ _ _ h => h) (Or.inl ⟨by kernel_rfl, ?h26⟩) (by assumption) ?r26
                  case h26 => (intro w hSw; (try dsimp only at hSw); go_simp; try with_reducible rfl)
                  try simp only [Act.put, List.setIfInBounds_toArray, List.set_cons_zero, List.set_cons_succ]
                  refine wpAnyH_take (i := 14) (oi := { dst := some 54, op := Go.Op.indexAddr 22 (Go.Operand.tmp 47) (Go.Operand.tmp 53), type := 0, pos := "ref.go:126", after := #[{ on := 7, ground := Go.Ground.data }, { on := 13, ground := Go.Ground.data }], guard := none }) (v := ?v27) rfl (by kernel_rfl) (by kernel_rfl) (by kernel_rfl) (fun _ _ _ h => h) (Or.inl ⟨by kernel_rfl, ?h27⟩) (by assumption) ?r27
                  case h27 => (intro w hSw; (try dsimp only at hSw); go_simp; try with_reducible rfl)
                  try simp only [Act.put, List.setIfInBounds_toArray, List.set_cons_zero, List.set_cons_succ]
                  refine wpAnyH_take (i := 15) (oi := { dst := some 55, op := Go.Op.load 3 (Go.Operand.tmp 54), type := 3, pos := "ref.go:126", after := #[{ on := 14, ground := Go.Ground.data }], guard := none }) (v := ?v28) rfl (by kernel_rfl) (by kernel_rfl) (by kernel_rfl) (fun _ _ _ h => h) (Or.inl ⟨by kernel_rfl, ?h28⟩) (by assumption) ?r28
                  case h28 => (intro w hSw; (try dsimp only at hSw); go_simp; try with_reducible rfl)
                  try simp only [Act.put, List.setIfInBounds_toArray, List.set_cons_zero, List.set_cons_succ]
                  refine wpAnyH_ready (rs := [2]) (by kernel_rfl) (by simp) ?_
                  refine AllReadyH.cons (o := { dst := some 42, op := Go.Op.call { callee := Go.Callee.value (Go.Operand.func 39), args := #[Go.Operand.tmp 40, Go.Operand.tmp 41], argTypes := #[22, 3] }, type := 3, pos := "ref.go:126", after := #[{ on := 0, ground := Go.Ground.data }, { on := 1, ground := Go.Ground.data }], guard := none }) rfl (fun K hK => ?_) AllReadyH.nil
                  go_simp
                  refine (hx.out _ hHeld).mono ?_
                  rintro e w1 ⟨rfl, rfl⟩
                  go_simp
                  refine hK.out _ _ (hHeld) (fun hHeld => ?_)
                  clear hK K
                  try simp only [Act.put, List.setIfInBounds_toArray, List.set_cons_zero, List.set_cons_succ]
                  refine wpAnyH_ready (rs := [5]) (by kernel_rfl) (by simp) ?_
                  refine AllReadyH.cons (o := { dst := some 45, op := Go.Op.call { callee := Go.Callee.value (Go.Operand.func 39), args := #[Go.Operand.tmp 43, Go.Operand.tmp 44], argTypes := #[22, 3] }, type := 3, pos := "ref.go:126", after := #[{ on := 3, ground := Go.Ground.data }, { on := 4, ground := Go.Ground.data }, { on := 2, ground := Go.Ground.chain }], guard := none }) rfl (fun K hK => ?_) AllReadyH.nil
                  go_simp
                  refine (hy.out _ hHeld).mono ?_
                  rintro e w1 ⟨rfl, rfl⟩
                  go_simp
                  refine hK.out _ _ (hHeld) (fun hHeld => ?_)
                  clear hK K
                  try simp only [Act.put, List.setIfInBounds_toArray, List.set_cons_zero, List.set_cons_succ]
                  refine wpAnyH_take (i := 6) (oi := { dst := some 46, op := Go.Op.binOp Go.BinOp.sub 3 (Go.Operand.tmp 42) (Go.Operand.tmp 45) 3, type := 3, pos := "ref.go:126", after := #[{ on := 2, ground := Go.Ground.data }, { on := 5, ground := Go.Ground.data }], guard := none }) (v := ?v29) rfl (by kernel_rfl) (by kernel_rfl) (by kernel_rfl) (fun _ _ _ h => h) (Or.inl ⟨by kernel_rfl, ?h29⟩) (by assumption) ?r29
                  case h29 => (intro w hSw; (try dsimp only at hSw); go_simp; try with_reducible rfl)
                  try simp only [Act.put, List.setIfInBounds_toArray, List.set_cons_zero, List.set_cons_succ]
                  refine wpAnyH_take (i := 16) (oi := { dst := some 56, op := Go.Op.binOp Go.BinOp.gtr 3 (Go.Operand.tmp 46) (Go.Operand.tmp 55) 3, type := 4, pos := "ref.go:126", after := #[{ on := 6, ground := Go.Ground.data }, { on := 15, ground := Go.Ground.data }], guard := none }) (v := ?v30) rfl (by kernel_rfl) (by kernel_rfl) (by kernel_rfl) (fun _ _ _ h => h) (Or.inl ⟨by kernel_rfl, ?h30⟩) (by assumption) ?r30
                  case h30 => (intro w hSw; (try dsimp only at hSw); go_simp; try with_reducible rfl)
                  try simp only [Act.put, List.setIfInBounds_toArray, List.set_cons_zero, List.set_cons_succ]
                  refine wpAnyH_done (by kernel_rfl) ?_ _
                  go_wp2
                  go_roundw
                  case rel => (obtain ⟨k, hk⟩ := hHeld; exact ⟨j + 1, k, by omega, by go_num, hn2, hk⟩)
                  case measure => simp [intOf]; omega
              · have hje : j = mv + 1 := by omega
                have hnext : Hid (∀ t, t < (i + 1) * (mv + 1) → cellB mv l v t = true) := Lib.hid (by have := hall.out; rw [hje] at this; rw [Nat.add_mul, Nat.one_mul]; exact this)
                clear hall
                go_wp2
                go_roundw
                case rel => exact ⟨i + 1, m2, by omega, by go_num, hnext, rfl⟩
                case measure => simp [intOf]; omega
          · have hie : i = mv + 1 := by omega
            have hr : R = true := by
              rw [hR.out]
              have := hall.out
              rw [hie] at this
              exact cellsB_yes this
            subst hr
            clear hall hR
            go_wp2
            go_ret
            exact ⟨rfl, m2, rfl⟩
  · have hr : R = false := by rw [hdef.out, ← hh.out.len, decide_eq_false hms]; rfl
    subst hr
    generalize sz mv = s at *
    have e1 : ((m : Int) != (s : Int)) = true := by simp; omega
    have e2 : ¬ (m : Int) = (s : Int) := by omega
    clear hdef
    go_enter Try.func23, Try.ntmps23
    go_wp2
    go_ret
    exact ⟨rfl, 0, rfl⟩

theorem rhas_any (n : Int) (hn : n ≤ 8) (a : Option Addr) (m c : Nat) (l : List Int) (av : Option Addr) (mv cv : Nat) (v : List Int) (w : World) (h : SL w a m c l) (hv : SL w av mv cv v) :
    Calls Try.prog 22 #[.agg #[.int .i64 n, .slice a m c], .slice av mv cv] w (Gives (.bool (decide ((v.length : Int) = n) && holdsB l v)) w) := by
  have hB := box_below w #[.int .i64 n, .slice a m c] 26
  have hB' := Lib.hid hB
  have hvm := hv.max
  rw [← hv.len]
  by_cases e : (mv : Int) = n
  · have hho := Lib.hid (holds_any a m c l av mv cv v (by omega) _ (h.below hB) (hv.below hB))
    rw [decide_eq_true e, Bool.true_and]
    subst e
    clear hB h hv
    generalize holdsB l v = R at *
    go_enter Try.func22, Try.ntmps22
    go_wp2_with fail
    refine hho.out.mono ?_
    rintro e w1 ⟨rfl, k, rfl⟩
    go_wp2
    go_ret
    exact ⟨rfl, Below.drewN hB'.out k⟩
  · rw [decide_eq_false e, Bool.false_and]
    have e2 : ((mv : Int) == n) = false := by simpa using e
    clear hB h hv
    go_enter Try.func22, Try.ntmps22
    go_wp2
    go_ret
    exact ⟨rfl, hB'.out⟩
/-- The point of j. -/
def pointL (n : Nat) (l : List Int) (j : Nat) : List Int := (List.range n).map fun k => l.getD ((k + 1) * (n + 1) + j) 0 - l.getD j 0
theorem point_step (n : Nat) (l : List Int) (j k : Nat) (hk : k < n) : (pointL n l j).take k ++ [l.getD ((k + 1) * (n + 1) + j) 0 - l.getD j 0] = (pointL n l j).take (k + 1) := by
  have hl : k < (pointL n l j).length := by simp [pointL, hk]
  have e : (pointL n l j)[k] = l.getD ((k + 1) * (n + 1) + j) 0 - l.getD j 0 := by simp [pointL]
  rw [← List.take_append_getElem hl, e]
def PointS (n : Nat) (l : List Int) (j : Nat) (w : World) (e : Ending) (w' : World) : Prop := ∃ a c, e = .returned (.tuple #[.slice a n c, .bool true]) ∧ n ≤ c ∧ Sees .i64 w'.heap.size w' a (pointL n l j) ∧ Below w.heap.size w w'
theorem full_at {n : Nat} {l : List Int} (hF : Full n l) {p : Nat} (hp : p < sz n) : -2199023255552 ≤ l.getD p 0 ∧ l.getD p 0 ≤ 2199023255552 := by
  obtain ⟨q1, q2, q3⟩ := place_of hp
  have e : l.getD p 0 = mat n l (p / (n + 1)) (p % (n + 1)) := by unfold mat; rw [q3]
  have h1 := hF.up q1 q2
  have h2 := hF.low q1 q2
  have h3 := widestF_le (p / (n + 1)) (p % (n + 1))
  have h4 := widestF_le (p % (n + 1)) (p / (n + 1))
  omega
set_option maxRecDepth 100000 in
theorem point_ok (n : Nat) (a : Option Addr) (m c : Nat) (l : List Int) (j : Nat) (hj : j ≤ n) (hF : Full n l) (w : World) (h : SL w a m c l) :
    Calls Try.prog 19 #[.agg #[.int .i64 n, .slice a m c], .int .i64 j] w (PointS n l j w) := by
  obtain ⟨i0, hi, hz0, hz1, hz2⟩ := info_parts infoInt
  obtain ⟨W1, hW1⟩ : ∃ W1, W1 = w.alloc (.cells #[.int .i64 n, .slice a m c] 26) := ⟨_, rfl⟩
  have hB : Below w.heap.size w W1 := by rw [hW1]; exact box_below _ _ _
  have hz : ZH W1 w.heap.size (.int .i64 n) (.slice a m c) := by rw [hW1]; exact Holds.new w _ _
  have hW1' := Lib.hid hW1
  have hB' := Lib.hid hB
  have hz' := Lib.hid hz
  have hsl := Lib.hid (h.below hB)
  have hbd := Lib.hid (bound_any n a m c l 0 j W1 hsl.out)
  have e1 : bndV n l 0 j = l.getD j 0 := by
    unfold bndV
    rw [hF.is, show ((n : Int)).toNat = n by omega, show ((j : Int)).toNat = j by omega, inB_nat hj, show inB n 0 = true from inB_nat (k := 0) (Nat.zero_le _)]
    simp
  have e2 : bndB n l 0 j = true := by
    unfold bndB
    rw [hF.is, show ((n : Int)).toNat = n by omega, inB_nat hj, show inB n 0 = true from inB_nat (k := 0) (Nat.zero_le _)]
    rfl
  rw [e1, e2] at hbd
  have hn := hF.le
  have hs81 := sz_le hn
  have hms : m = sz n := by rw [h.len, hF.len]
  have hms' := Lib.hid hms
  have hn' := Lib.hid hn
  have hd := full_at hF (p := j) (by have := place_lt (n := n) (i := 0) (j := j) (by omega) hj; unfold sz; omega)
  have hat := Lib.hid (fun p (hp : p < sz n) => full_at hF hp)
  have hlen := Lib.hid hF.len
  have hstep := Lib.hid (point_step n l j)
  have hpl : Hid ((pointL n l j).length = n) := Lib.hid (by simp [pointL])
  have hni : (n : Int) ≤ 8 := by omega
  have hji : (j : Int) ≤ 8 := by omega
  have v1 : IntKind.i64.wrap ((n : Int) + 1) = (n : Int) + 1 := wrap_small (by omega) (by omega)
  clear hW1 hB hz h hF e1 e2 hn hms
  unfold PointS
  generalize pointL n l j = R at *
  generalize l.getD j 0 = dn at *
  go_enter Try.func19, Try.ntmps19
  go_wp2_with fail
  rw [← hW1'.out]
  refine hbd.out.mono ?_
  rintro e w1 ⟨rfl, b1⟩
  have hb1 := Lib.hid b1
  have hz1' := Lib.hid (hz'.out.below b1 hz'.out.lt)
  have c0 := hz1'.out.cell 0
  have c1 := hz1'.out.cell 1
  clear b1 hbd
  go_wp2
  go_loopw [8, 20] (fun v x wr => ∃ k : Nat, k ≤ n ∧ x = .int .i64 k ∧ Hid (wr.ownsRow w1.heap.size 3 1 v (R.take k).length (nums .i64 (R.take k))) ∧ Hid (Below w1.heap.size w1 wr)) (fun _ x _ => n - (intOf x).toNat)
  case atStart => exact ⟨0, by omega, rfl, Lib.hid (by rw [List.take_zero]; exact ⟨rfl, .inl ⟨rfl, rfl⟩⟩), Lib.hid (Below.refl _ _)⟩
  case round =>
    clear c0 c1
    obtain ⟨k, hk, rfl, hown, hb⟩ := hrel
    by_cases hlt : k < n
    · have hki : (k : Int) < (n : Int) := by omega
      have hz2' := hz1'.out.below hb.out hz1'.out.lt
      have c0 := hz2'.cell 0
      have c1 := hz2'.cell 1
      obtain ⟨p, q, u1, u2, u3, hq, hqs, -, -, -⟩ := place_wraps (i := k + 1) hn'.out (by omega) hj
      have hqm : (q : Int) < (m : Int) := by have := hms'.out; omega
      obtain ⟨b, off, rfl, -, hc⟩ := sees_at' ((hsl.out.below hb1.out).below hb.out).sees (i := q) (by have := hlen.out; omega)
      have hx := hat.out q hqs
      have hnx : Hid (R.take k ++ [l.getD q 0 - dn] = R.take (k + 1)) := Lib.hid (by rw [hq]; exact hstep.out k hlt)
      have hku : ((k + 1 : Nat) : Int) = (k : Int) + 1 := by omega
      rw [hku] at u2
      have ku : IntKind.i64.wrap ((k : Int) + 1) = (k : Int) + 1 := wrap_small (by omega) (by omega)
      clear hq hqs hku hz2'
      generalize l.getD q 0 = x at *
      have hw : IntKind.i64.wrap (x - dn) = x - dn := wrap_small (by omega) (by omega)
      have hrl : (R.take k).length ≤ 8 := by have := hpl.out; rw [List.length_take]; omega
      go_wp2_with (at_builtin; refine wpList_append1 _ rfl _ _ 22 rfl w1 3 i0 (.int .i64 0) 8 Try.underlying22 hi hz0 hz1 hz2 rfl .i64 (x - dn) _ _ hown.out hb.out rfl rfl (by omega) (by omega) ?_; intro v' w' hown2 hb2; have hown2' := Lib.hid hown2; have hb2' := Lib.hid hb2; clear hown2 hb2)
      go_roundw
      case rel => exact ⟨k + 1, by omega, by go_num, by rw [← hnx.out]; exact hown2', hb2'⟩
      case measure => simp [intOf]; omega
    · have hke : k = n := by omega
      have htk : R.take k = R := by rw [hke]; exact List.take_of_length_le (by rw [hpl.out]; exact Nat.le_refl _)
      have hw := hown.out
      rw [htk] at hw
      obtain ⟨a5, c5, hv, -, hs⟩ := sees_own hw
      rw [hpl.out] at hv
      subst hv
      have hcap := own_cap hw
      have hs' := Lib.hid hs
      have hbb := Lib.hid (hb1.out.trans (hb.out.mono hb1.out.size))
      clear hown hw hs htk
      go_wp2
      go_ret2
      exact ⟨a5, c5, rfl, hcap, hs'.out, hB'.out.trans (hbb.out.mono hB'.out.size)⟩
theorem point_no (n : Int) (a : Option Addr) (m c : Nat) (l : List Int) (j : Int) (hno : bndB n l 0 j = false) (w : World) (h : SL w a m c l) :
    Calls Try.prog 19 #[.agg #[.int .i64 n, .slice a m c], .int .i64 j] w (Gives (.tuple #[.slice none 0 0, .bool false]) w) := by
  obtain ⟨W1, hW1⟩ : ∃ W1, W1 = w.alloc (.cells #[.int .i64 n, .slice a m c] 26) := ⟨_, rfl⟩
  have hB : Below w.heap.size w W1 := by rw [hW1]; exact box_below _ _ _
  have hW1' := Lib.hid hW1
  have hB' := Lib.hid hB
  have hbd := Lib.hid (bound_any n a m c l 0 j W1 (h.below hB))
  rw [hno] at hbd
  clear hW1 hB h hno
  generalize bndV n l 0 j = x at *
  go_enter Try.func19, Try.ntmps19
  go_wp2_with fail
  rw [← hW1'.out]
  refine hbd.out.mono ?_
  rintro e w1 ⟨rfl, b1⟩
  have hb1 := Lib.hid (hB'.out.trans (b1.mono hB'.out.size))
  go_wp2
  go_ret2
  exact ⟨rfl, hb1.out⟩
end Go.Proofs.Ytmfdkffekgodgaa
