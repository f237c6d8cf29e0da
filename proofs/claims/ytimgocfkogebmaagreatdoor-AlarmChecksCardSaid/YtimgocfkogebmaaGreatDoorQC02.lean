/-
  Words and walks under the law's proof.
-/
import Derived.Deep.Slices
import Derived.Deep.Fields
import Derived.ChangeSame
import Derived.SizedLaws
import Derived.Maps.AppendAt
import Derived.Lib.ConvBytes
import Derived.Sort.Walk0
import Derived.Lib.SlicesCompact
import Derived.Test.YtimgocfkogebmaaGreatDoorRows
import Derived.Lib.Hide
import Derived.Deep.DeepCutAuto
import Derived.Lib.SlicesS
import Derived.Test.YtimgocfkogebmaaGreatDoorQC01
namespace Go.Proofs.YtimgocfkogebmaaGreatDoor
open Go.RowKit
set_option linter.unusedVariables false
set_option linter.unusedSimpArgs false
def otherR (r : Nat) : Bool := !fileI (r : Int)
theorem idx_file (s : ByteArray) : ∀ f pos, s.size ≤ pos + f → (∀ t, t < pos → fileI ((codes s).getD t 0) = true) → decide (0 ≤ Lib.idxFuncFrom otherR true s f pos) = !allF s
  | 0, pos, hf, hal => by
    rw [allF_yes (fun t ht => hal t (by omega))]
    unfold Lib.idxFuncFrom
    rfl
  | f + 1, pos, hf, hal => by
    unfold Lib.idxFuncFrom
    by_cases hp : pos < s.size
    · rw [if_pos hp]
      have hat := codes_at s pos hp
      by_cases ha : (s[pos]'hp).toNat < 128
      · rw [decode_ascii s pos hp ha]
        cases hfi : fileI ((codes s).getD pos 0)
        · have h1 : otherR (s[pos]'hp).toNat = true := by unfold otherR; rw [← hat, hfi]; rfl
          rw [allF_no hp hfi]; simp [h1]
        · have h1 : otherR (s[pos]'hp).toNat = false := by unfold otherR; rw [← hat, hfi]; rfl
          have hn : ∀ t, t < pos + 1 → fileI ((codes s).getD t 0) = true := fun t ht => by
            by_cases e : t = pos
            · rw [e]; exact hfi
            · exact hal t (by omega)
          have ih := idx_file s f (pos + 1) (by omega) hn
          simp [ih, h1]
      · have hd := (decode_high s pos hp (by omega)).1
        have h1 : otherR (Utf8.decode s pos).1 = true := by unfold otherR; rw [file_high (by omega)]; rfl
        rw [h1, allF_no hp (file_high (by rw [hat]; omega))]
        simp
    · rw [if_neg hp, allF_yes (fun t ht => hal t (by omega))]
      rfl
set_option maxRecDepth 100000 in
theorem other_any (c : Int) (w : World) : Calls Tryz.prog 188 #[.int .i32 c] w (SetTo (.bool (!fileI c)) w) := by
  have q := Lib.hid (nameRune_any c w)
  cases hm : moreI c
  · have hR : Hid (fileI c = (decide (c = 45) || decide (c = 47))) := Lib.hid (by unfold fileI; rw [hm, Bool.false_or])
    rw [hm] at q
    clear hm
    generalize fileI c = R at *
    by_cases h1 : c = 45
    · have hF : Hid ((!R) = false) := Lib.hid (by rw [hR.out, decide_eq_true h1]; rfl)
      have h1b : (c != 45) = false := by simpa using h1
      clear hR h1
      go_enter Tryz.func188, Tryz.ntmps188
      go_wp2_with fail
      refine q.out.mono ?_
      rintro e w1 ⟨rfl, rfl⟩
      go_wp2
      go_ret
      exact ⟨ret_bool hF.out.symm, rfl⟩
    · have hF : Hid ((c != 47) = !R) := Lib.hid (by rw [hR.out, decide_eq_false h1, Bool.false_or, Bool.eq_iff_iff]; simp)
      have h1b : (c != 45) = true := by simpa using h1
      clear hR h1
      go_enter Tryz.func188, Tryz.ntmps188
      go_wp2_with fail
      refine q.out.mono ?_
      rintro e w1 ⟨rfl, rfl⟩
      go_wp2
      go_ret
      exact ⟨ret_bool hF.out, rfl⟩
  · have hR : Hid ((!fileI c) = false) := Lib.hid (by unfold fileI; rw [hm, Bool.true_or]; rfl)
    rw [hm] at q
    clear hm
    generalize (!fileI c) = R at *
    go_enter Tryz.func188, Tryz.ntmps188
    go_wp2_with fail
    refine q.out.mono ?_
    rintro e w1 ⟨rfl, rfl⟩
    go_wp2
    go_ret
    exact ⟨ret_bool hR.out.symm, rfl⟩
theorem contains_file (s : ByteArray) (w : World) : Calls Tryz.prog 68 #[.string s, .func (.func 188) #[] #[]] w (Gives (.bool (!allF s)) w) := by
  have h := Tryz.strings_ContainsFunc_grows 188 #[] (fun args w => by kernel_rfl) otherR s w (fun W x hx hb => (other_any (x : Int) W).mono (fun e w' h => ⟨h.1, by rw [← h.2]; exact Below.refl _ _⟩))
  rw [show decide (0 ≤ Lib.idxFunc otherR true s) = !allF s from idx_file s s.size 0 (by omega) (fun t ht => by omega)] at h
  exact h
set_option maxRecDepth 100000 in
theorem fileName_any (s : ByteArray) (w : World) : Calls Tryz.prog 146 #[.string s] w (Gives (.bool (fileB s)) w) := by
  by_cases h0 : s.size ≤ 64
  · have h0i : (s.size : Int) ≤ 64 := by omega
    have q1 := Lib.hid (begins_any s w)
    have q2 := Lib.hid (contains_file s w)
    cases hb : begB s
    · have hR : Hid (fileB s = false) := Lib.hid (by unfold fileB; rw [hb, Bool.false_and, Bool.and_false])
      rw [hb] at q1
      clear hb
      go_enter Tryz.func146, Tryz.ntmps146
      go_wp2_with fail
      refine q1.out.mono ?_
      rintro e w1 ⟨rfl, rfl⟩
      go_wp2
      go_ret
      exact ⟨ret_bool hR.out.symm, Below.refl _ _⟩
    · have hR : Hid (fileB s = allF s) := Lib.hid (by unfold fileB; rw [hb, decide_eq_true h0, Bool.true_and, Bool.true_and])
      rw [hb] at q1
      clear hb
      generalize fileB s = R at *
      generalize allF s = k at *
      go_enter Tryz.func146, Tryz.ntmps146
      go_wp2_with fail
      refine q1.out.mono ?_
      rintro e w1 ⟨rfl, rfl⟩
      go_wp2_with fail
      refine q2.out.mono ?_
      rintro e w2 ⟨rfl, hb2⟩
      go_wp2
      go_ret
      exact ⟨ret_bool (by rw [hR.out]; try (cases k <;> rfl)), hb2⟩
  · have h0i : ¬ (s.size : Int) ≤ 64 := by omega
    have hR : Hid (fileB s = false) := Lib.hid (by unfold fileB; rw [decide_eq_false h0, Bool.false_and])
    go_enter Tryz.func146, Tryz.ntmps146
    go_wp2
    go_ret
    exact ⟨ret_bool hR.out.symm, Below.refl _ _⟩
theorem file_no {s : ByteArray} {k : Nat} (hk : k < s.size) (h : fileI ((codes s).getD k 0) = false) : fileB s = false := by
  unfold fileB
  rw [allF_no hk h, Bool.and_false, Bool.and_false]
theorem file_yes {s : ByteArray} (h : ∀ t, t < s.size → fileI ((codes s).getD t 0) = true) : fileB s = (decide (0 < s.size) && (decide (s.size ≤ 64) && letterI ((codes s).getD 0 0))) := by
  unfold fileB begB
  rw [allF_yes h]
  cases decide (s.size ≤ 64) <;> cases decide (0 < s.size) <;> cases letterI ((codes s).getD 0 0) <;> rfl
set_option maxRecDepth 100000 in
set_option maxHeartbeats 1000000 in
theorem rfile_any (s : ByteArray) (hs : s.size ≤ 9223372036854775806) (w : World) : Calls Tryz.prog 34 #[.string s] w (SetTo (.bool (fileB s)) w) := by
  obtain ⟨R, hR'⟩ : ∃ R, R = fileB s := ⟨_, rfl⟩
  have hR := Lib.hid hR'
  rw [← hR']
  clear hR'
  go_enter Tryz.func34, Tryz.ntmps34
  go_wp2
  go_loop [3] (fun x => ∃ k : Nat, k ≤ s.size ∧ x = .int .i64 k ∧ Hid (∀ t, t < k → fileI ((codes s).getD t 0) = true)) (fun x => s.size - (intOf x).toNat)
  case atStart => exact ⟨0, Nat.zero_le _, rfl, Lib.hid (fun t ht => by omega)⟩
  case round =>
    obtain ⟨k, hk, rfl, hal⟩ := hrel
    by_cases hp : k < s.size
    · have hpi : (k : Int) < (s.size : Int) := by omega
      have hat := Lib.hid (codes_at s k hp)
      have hno : Hid (fileI ((s[k]'hp).toNat : Int) = false → R = false) := Lib.hid (fun h => by rw [hR.out]; exact file_no hp (by rw [hat.out]; exact h))
      have hyes : Hid (fileI ((s[k]'hp).toNat : Int) = true → ∀ t, t < k + 1 → fileI ((codes s).getD t 0) = true) := Lib.hid (fun h t ht => by
          by_cases e : t = k
          · rw [e, hat.out]; exact h
          · exact hal.out t (by omega))
      have q := Lib.hid (rmore_any ((s[k]'hp).toNat : Int) w)
      have hfe : Hid (fileI ((s[k]'hp).toNat : Int) = (moreI ((s[k]'hp).toNat : Int) || (decide (((s[k]'hp).toNat : Int) = 45) || decide (((s[k]'hp).toNat : Int) = 47)))) := Lib.hid rfl
      clear hal hat
      generalize fileI ((s[k]'hp).toNat : Int) = F at *
      cases hm : moreI ((s[k]'hp).toNat : Int)
      · rw [hm] at q hfe
        clear hm
        by_cases h1 : ((s[k]'hp).toNat : Int) = 45
        · have hn := Lib.hid (hyes.out (by rw [hfe.out, decide_eq_true h1]; rfl))
          have h1b : (((s[k]'hp).toNat : Int) != 45) = false := by simpa using h1
          clear hno hyes hfe h1
          go_wp2_with fail
          refine q.out.mono ?_
          rintro e w1 ⟨rfl, rfl⟩
          go_wp2
          go_round
          case rel => exact ⟨k + 1, by omega, by go_num, hn⟩
          case measure => simp [intOf]; omega
        · have h1b : (((s[k]'hp).toNat : Int) != 45) = true := by simpa using h1
          by_cases h2 : ((s[k]'hp).toNat : Int) = 47
          · have hn := Lib.hid (hyes.out (by rw [hfe.out, decide_eq_true h2, Bool.or_true, Bool.or_true]))
            have h2b : (((s[k]'hp).toNat : Int) != 47) = false := by simpa using h2
            clear hno hyes hfe h1 h2
            go_wp2_with fail
            refine q.out.mono ?_
            rintro e w1 ⟨rfl, rfl⟩
            go_wp2
            go_round
            case rel => exact ⟨k + 1, by omega, by go_num, hn⟩
            case measure => simp [intOf]; omega
          · have hf := Lib.hid (hno.out (by rw [hfe.out, decide_eq_false h1, decide_eq_false h2]; rfl))
            have h2b : (((s[k]'hp).toNat : Int) != 47) = true := by simpa using h2
            clear hno hyes hfe h1 h2
            go_wp2_with fail
            refine q.out.mono ?_
            rintro e w1 ⟨rfl, rfl⟩
            go_wp2
            go_ret
            exact ⟨ret_bool hf.out.symm, rfl⟩
      · have hn := Lib.hid (hyes.out (by rw [hfe.out, hm, Bool.true_or]))
        rw [hm] at q
        clear hm hno hyes hfe
        go_wp2_with fail
        refine q.out.mono ?_
        rintro e w1 ⟨rfl, rfl⟩
        go_wp2
        go_round
        case rel => exact ⟨k + 1, by omega, by go_num, hn⟩
        case measure => simp [intOf]; omega
    · have hpi : ¬ (k : Int) < (s.size : Int) := by omega
      have hY := Lib.hid (file_yes (s := s) (fun t ht => hal.out t (by omega)))
      clear hal
      by_cases h0 : 0 < s.size
      · have h0i : (0 : Int) < (s.size : Int) := by omega
        by_cases h1 : s.size ≤ 64
        · have h1i : (s.size : Int) ≤ 64 := by omega
          have q := Lib.hid (rletter_any ((s[0]'h0).toNat : Int) w)
          have hF : Hid (R = letterI ((s[0]'h0).toNat : Int)) := Lib.hid (by rw [hR.out, hY.out, decide_eq_true h0, decide_eq_true h1, codes_at s 0 h0]; rfl)
          clear hY hR
          go_wp2_with fail
          refine q.out.mono ?_
          rintro e w1 ⟨rfl, rfl⟩
          go_wp2
          go_ret
          exact ⟨ret_bool hF.out.symm, rfl⟩
        · have h1i : ¬ (s.size : Int) ≤ 64 := by omega
          have hF : Hid (R = false) := Lib.hid (by rw [hR.out, hY.out, decide_eq_true h0, decide_eq_false h1]; rfl)
          clear hY hR
          go_wp2
          go_ret
          exact ⟨ret_bool hF.out.symm, rfl⟩
      · have h0i : ¬ (0 : Int) < (s.size : Int) := by omega
        have hF : Hid (R = false) := Lib.hid (by rw [hR.out, hY.out, decide_eq_false h0]; rfl)
        clear hY hR
        go_wp2
        go_ret
        exact ⟨ret_bool hF.out.symm, rfl⟩
end Go.Proofs.YtimgocfkogebmaaGreatDoor
namespace Go.Proofs.YtimgocfkogebmaaGreatDoor
open Go.RowKit Go.ChangeShapes Go.WideShapes Go.Deep
set_option linter.unusedVariables false
def Reach {H : Type} (P : Program) (t : TypeId) (d : DataW H) : Prop := ∀ n ∈ d.weights P t, n ≤ 140737488351232
theorem reach_each {H : Type} {P : Program} {ts : List TypeId} {ds : List (DataW H)} (h : (DataW.weightsEach P ts ds).all (· ≤ reachBytes) = true) {j : Nat} {t : TypeId} {d : DataW H} (ht : ts[j]? = some t) (hd : ds[j]? = some d) : Reach P t d := by
  intro n hn
  have := List.all_eq_true.1 h n (DataW.weights_mem_each ht hd n hn)
  have h' : n ≤ reachBytes := of_decide_eq_true this
  simpa [reachBytes] using h'
theorem weightsAll_mem {H : Type} {P : Program} {e : TypeId} : ∀ {l : List (DataW H)} {d : DataW H}, d ∈ l → ∀ n ∈ d.weights P e, n ∈ DataW.weightsAll P e l
  | x :: r, d, hd, n, hn => by
    unfold DataW.weightsAll
    rcases List.mem_cons.1 hd with rfl | hd
    · exact List.mem_append_left _ hn
    · exact List.mem_append_right _ (weightsAll_mem hd n hn)
theorem weights_slice {H : Type} {P : Program} {t e : TypeId} {el sp : List (DataW H)} (ht : P.underlying t = some (.slice e)) (h : Reach P t (.slice el sp)) : (el.length + sp.length) * P.bytesOf e ≤ 140737488351232 ∧ ∀ d ∈ el, Reach P e d := by
  unfold Reach at h
  unfold DataW.weights at h
  rw [ht] at h
  refine ⟨h _ (by simp), fun d hd n hn => h n ?_⟩
  exact List.mem_cons_of_mem _ (List.mem_append_left _ (weightsAll_mem hd n hn))
theorem weights_agg {H : Type} {P : Program} {t : TypeId} {fs : Array Field} {ps : List (DataW H)} (ht : P.underlying t = some (.struct fs)) (h : Reach P t (.agg ps)) {j : Nat} {f : Field} {d : DataW H} (hj : fs[j]? = some f) (hd : ps[j]? = some d) : Reach P f.type d := by
  intro n hn
  unfold Reach at h
  unfold DataW.weights at h
  rw [ht] at h
  have h1 : (fs.toList.map (·.type))[j]? = some f.type := by simp [hj]
  exact h n (DataW.weights_mem_each h1 hd n hn)
theorem reach_string {H : Type} {P : Program} {t : TypeId} {s : ByteArray} (h : Reach (H := H) P t (.lit (.string s.data.toList))) : s.size ≤ 140737488351232 := by
  have := h s.data.toList.length (by simp [DataW.weights])
  simpa using this
end Go.Proofs.YtimgocfkogebmaaGreatDoor
namespace Go.Proofs.YtimgocfkogebmaaGreatDoor
open Go.RowKit
set_option linter.unusedVariables false
theorem BelowE.grown {X : List Nat} {B : Nat} {a w w' : World} {row : Option Nat} (h : BelowE X B a w) (hg : w.grownBy w' row) (hB : B ≤ w.heap.size) (hr : ∀ k, row = some k → k < B → k ∈ X) : BelowE X B a w' :=
  h.trans ⟨hg.os, hg.tape, hg.output, hg.size, fun k hk hx => hg.block k (by omega) (fun e => hx (hr k e.symm hk))⟩
theorem own_from {w : World} {base B : Nat} {e : TypeId} {size n : Nat} {v : Value} {xs : List Value} (h : w.ownsRow base e size v n xs) (hB : ∀ k, v.ownBlock = some k → B ≤ k) : w.ownsRow B e size v n xs := by
  refine ⟨h.1, ?_⟩
  rcases h.2 with h | ⟨g, cap, cur, hv, hg, r⟩
  · exact .inl h
  · exact .inr ⟨g, cap, cur, hv, hB g (by rw [hv]; rfl), r⟩
theorem own_belowE {w w' : World} {X : List Nat} {base : Nat} {e : TypeId} {size n : Nat} {v : Value} {xs : List Value} (h : w.ownsRow base e size v n xs) (hb : BelowE X w.heap.size w w') (hx : ∀ k, v.ownBlock = some k → k ∉ X) : w'.ownsRow base e size v n xs := by
  refine ⟨h.1, ?_⟩
  rcases h.2 with h | ⟨g, cap, cur, hv, hg, hh, r⟩
  · exact .inl h
  · exact .inr ⟨g, cap, cur, hv, hg, (hb.block g (Array.getElem?_eq_some_iff.1 hh).1 (hx g (by rw [hv]; rfl))).trans hh, r⟩
theorem own_below {w w' : World} {base : Nat} {e : TypeId} {size n : Nat} {v : Value} {xs : List Value} (h : w.ownsRow base e size v n xs) (hb : Below w.heap.size w w') : w'.ownsRow base e size v n xs :=
  own_belowE h (.of hb) (X := []) (by simp)
end Go.Proofs.YtimgocfkogebmaaGreatDoor
namespace Go.Proofs.YtimgocfkogebmaaGreatDoor
open Go.RowKit
set_option linter.unusedVariables false
def SeesC (B : Nat) (w : World) (a : Option Addr) (cs : List Value) : Prop :=
  cs = [] ∨ ∃ b off, a = some ⟨b, off, none⟩ ∧ b < B ∧ ∀ i u, cs[i]? = some u → w.cell? ⟨b, off + i, none⟩ = some u
theorem SeesC.below {B : Nat} {w w' : World} {a : Option Addr} {cs : List Value} (h : SeesC B w a cs) (hb : Below B w w') : SeesC B w' a cs := by
  rcases h with h | ⟨b, off, rfl, hB, hc⟩
  · exact .inl h
  · exact .inr ⟨b, off, rfl, hB, fun i u hu => (hb.cell (p := ⟨b, off + i, none⟩) hB).trans (hc i u hu)⟩
theorem SeesC.mono {B B' : Nat} {w : World} {a : Option Addr} {cs : List Value} (h : SeesC B w a cs) (hb : B ≤ B') : SeesC B' w a cs := by
  rcases h with h | ⟨b, off, rfl, hB, hc⟩
  · exact .inl h
  · exact .inr ⟨b, off, rfl, by omega, hc⟩
theorem add_at (b off i : Nat) : (⟨b, off, none⟩ : Addr).add i = ⟨b, off + i, none⟩ := by unfold Addr.add; split <;> simp_all
theorem seesC_own {w : World} {base : Nat} {e : TypeId} {size : Nat} {v : Value} {n : Nat} {cs : List Value} (h : w.ownsRow base e size v n cs) :
    ∃ a cap, v = .slice a n cap ∧ n ≤ cap ∧ cap ≤ maxLen ∧ SeesC w.heap.size w a cs := by
  rcases h.2 with ⟨rfl, h0⟩ | ⟨g, cap, cur, rfl, _, hg, hc1, hc2, _⟩
  · subst h0
    have : cs = [] := List.eq_nil_of_length_eq_zero (by have := h.1; omega)
    exact ⟨none, 0, rfl, Nat.le_refl _, by simp, .inl this⟩
  · refine ⟨_, cap, rfl, hc1, hc2, .inr ⟨g, 0, rfl, (Array.getElem?_eq_some_iff.1 hg).1, fun i u hu => ?_⟩⟩
    have := h.cells (g := g) rfl i u hu
    rw [add_at] at this
    exact this
theorem seesC_lit (w : World) (e : TypeId) (cs : Array Value) (fr : Nat × Nat := (0, 0)) : SeesC (w.alloc (.cells cs e fr)).heap.size (w.alloc (.cells cs e fr)) (some ⟨w.heap.size, 0, none⟩) cs.toList := by
  refine .inr ⟨w.heap.size, 0, rfl, by simp, fun i u hu => ?_⟩
  rw [cell_of_row _ _ _ _ _ _ (heap_alloc_new w _)]
  simpa using hu
theorem flat_at {α : Type} {f : α → List Value} {k : Nat} (hk : ∀ x, (f x).length = k) : ∀ (l : List α) (i j : Nat), j < k → (l.flatMap f)[i * k + j]? = (l[i]?).bind fun x => (f x)[j]?
  | [], i, j, _ => by simp
  | x :: l, 0, j, hj => by simp [List.getElem?_append, hk, hj]
  | x :: l, i + 1, j, hj => by
    have ih := flat_at hk l i j hj
    rw [List.flatMap_cons, List.getElem?_append_right (by rw [hk, Nat.succ_mul]; omega), hk, show (i + 1) * k + j - k = i * k + j by rw [Nat.succ_mul]; omega, ih]
    simp
theorem flat_len {α : Type} {f : α → List Value} {k : Nat} (hk : ∀ x, (f x).length = k) : ∀ (l : List α), (l.flatMap f).length = l.length * k
  | [] => by simp
  | x :: l => by rw [List.flatMap_cons, List.length_append, flat_len hk l, hk, List.length_cons, Nat.succ_mul]; omega
theorem run_append_cellsB {P : Program} (w : World) (base : Nat) (t ty e : TypeId) (i : TypeInfo) (z : Value) (size bytes : Nat) (ht : P.underlying t = some (.slice e)) (hi : P.info? e = some i) (hz : i.zero = some z)
    (hsize : i.size = size) (hby : i.bytes = bytes) (hzs : z.cells.size = size) (hsz : 0 < size)
    (v : Value) (n : Nat) (xs : List Value) (hown : w.ownsRow base e size v n xs) (B : Nat) (A : Option Addr) (m c : Nat) (news : List Value) (hl : news.length = m * size) (hs : SeesC B w A news) (h1 : ∀ u ∈ news, u.oneCell' = true)
    (hn : n + m ≤ maxLen) (hby2 : (n + m) * bytes ≤ 140737488355328) (hbase : base ≤ w.heap.size) :
    ∃ v' w', (Builtin.append_ #[t, t] ty #[v, .slice A m c]).run P w = .ok v' w' ∧ w'.ownsRow base e size v' (n + m) (xs ++ news) ∧ w.grownBy w' v.ownBlock ∧ (v'.ownBlock = v.ownBlock ∨ v'.ownBlock = some w.heap.size) := by
  cases A with
  | none =>
    have hnews : news = [] := by
      rcases hs with h | ⟨b, off, h, _⟩
      · exact h
      · cases h
    subst hnews
    have hm : m = 0 := by
      cases m with
      | zero => rfl
      | succ m => rw [Nat.succ_mul] at hl; simp at hl; omega
    subst hm
    exact ⟨v, w, run_append_none w base t ty e i size ht hi v n xs hown c, by simpa using hown, World.grownBy.refl w _, .inl rfl⟩
  | some ad =>
    have hc : ∀ j u, news[j]? = some u → w.cell? (ad.add j) = some u := by
      rcases hs with rfl | ⟨b, off, h, _, hc⟩
      · intro j u hj; simp at hj
      · injection h with h; subst h; intro j u hj; rw [add_at]; exact hc j u hj
    obtain ⟨v', w', hrun, h2, h3, _, h5⟩ := run_append_own_at (P := P) w base t ty e i z size bytes ht hi hz hsize hby hzs hsz v n xs hown ad m c news hl hc h1 hn hby2 hbase
    exact ⟨v', w', hrun, h2, h3, h5⟩
theorem wpList_append_cellsB {P : Program} (w : World) {ops : Array Oper} {rest : List Oper} {o : Oper} {a : Act} {Q : Exit → Act → World → Prop}
    (hg : o.guard = none) (s x : Operand) (t : TypeId) (hop : o.op = Op.call { callee := Callee.builtin Builtin.append, args := #[s, x], argTypes := #[t, t] })
    (w0 : World) (e : TypeId) (i : TypeInfo) (z : Value) (size bytes : Nat) (ht : P.underlying t = some (.slice e)) (hi : P.info? e = some i) (hz : i.zero = some z)
    (hsize : i.size = size) (hby : i.bytes = bytes) (hzs : z.cells.size = size) (hsz : 0 < size)
    (v : Value) (n : Nat) (xs : List Value) (hown : w.ownsRow w0.heap.size e size v n xs) (hb : Below w0.heap.size w0 w) (B : Nat) (A : Option Addr) (m c : Nat) (news : List Value) (hl : news.length = m * size) (hs : SeesC B w A news) (h1 : ∀ u ∈ news, u.oneCell' = true)
    (hsv : a.eval s = v) (hx : a.eval x = .slice A m c) (hn : n + m ≤ maxLen) (hby2 : (n + m) * bytes ≤ 140737488355328)
    (hK : ∀ v' w', w'.ownsRow w0.heap.size e size v' (n + m) (xs ++ news) → Below w0.heap.size w0 w' → wpList P ops Q rest (a.put o.dst v') w') :
    wpList P ops Q (o :: rest) a w := by
  obtain ⟨v', w', hrun, g1, g2, g3⟩ := run_append_cellsB (P := P) w w0.heap.size t o.type e i z size bytes ht hi hz hsize hby hzs hsz v n xs hown B A m c news hl hs h1 hn hby2 hb.size
  refine wpList_plain hg fun K hK' => ?_
  unfold Oper.wp
  simp [execOp, hop, resolve, invoke, builtin, hsv, hx, hrun, Result.andThen]
  exact hK' _ _ (hK v' w' g1 (hb.grown g2 hb.size fun k hk => (hown.lt k hk).1))
theorem own_cells (w : World) (e : TypeId) (size n : Nat) (cs : Array Value) (hn : cs.size = n * size) (hm : n ≤ maxLen) : (w.alloc (.cells cs e)).ownsRow w.heap.size e size (.slice (some ⟨w.heap.size, 0, none⟩) n n) n cs.toList :=
  ⟨by simpa using hn, .inr ⟨w.heap.size, n, cs, rfl, Nat.le_refl _, heap_alloc_new w _, Nat.le_refl _, hm, hn, by rw [List.take_of_length_le (by simp; omega)]⟩⟩
end Go.Proofs.YtimgocfkogebmaaGreatDoor
namespace Go.Proofs.YtimgocfkogebmaaGreatDoor
open Go.RowKit
set_option linter.unusedVariables false
structure RO {α : Type} (f : α → List Value) (w : World) (a : Option Addr) (n c : Nat) (l : List α) : Prop where
  len : n = l.length
  cap : n ≤ c
  max : c ≤ maxLen
  sees : SeesC w.heap.size w a (l.flatMap f)
theorem RO.below {α : Type} {f : α → List Value} {w w' : World} {a : Option Addr} {n c : Nat} {l : List α} (h : RO f w a n c l) (hb : Below w.heap.size w w') : RO f w' a n c l := ⟨h.len, h.cap, h.max, (h.sees.below hb).mono hb.size⟩
theorem RO.drewN {α : Type} {f : α → List Value} {w : World} {a : Option Addr} {n c : Nat} {l : List α} (h : RO f w a n c l) (m : Nat) : RO f (w.drewN m) a n c l := ⟨h.len, h.cap, h.max, h.sees⟩
theorem RO.nil {α : Type} {f : α → List Value} (w : World) : RO f w none 0 0 [] := ⟨rfl, Nat.le_refl _, by simp, .inl rfl⟩
theorem RO.max' {α : Type} {f : α → List Value} {w : World} {a : Option Addr} {n c : Nat} {l : List α} (h : RO f w a n c l) : n ≤ 9223372036854775807 := by
  have h1 := h.cap
  have h2 := h.max
  unfold maxLen at h2
  omega
theorem RO.at_ {α : Type} {f : α → List Value} {k : Nat} (hk : ∀ x, (f x).length = k) (h0 : 0 < k) {w : World} {a : Option Addr} {n c : Nat} {l : List α} (h : RO f w a n c l) (d : α) {i : Nat} (hi : i < n) :
    ∃ b off, a = some ⟨b, off, none⟩ ∧ b < w.heap.size ∧ ∀ j, j < k → w.cell? ⟨b, off + (i * k + j), none⟩ = (f (l.getD i d))[j]? := by
  have hl : i < l.length := by rw [← h.len]; exact hi
  rcases h.sees with e | ⟨b, off, rfl, hB, hc⟩
  · have h1 := congrArg List.length e
    rw [flat_len hk] at h1
    have h2 : 0 < l.length * k := Nat.mul_pos (by omega) h0
    simp at h1
    have : l.length * k = 0 := by simp [h1]
    omega
  · refine ⟨b, off, rfl, hB, fun j hj => ?_⟩
    have h1 : (l.flatMap f)[i * k + j]? = (f (l.getD i d))[j]? := by
      rw [flat_at hk l i j hj]
      simp [List.getD, hl]
    have h2 : j < (f (l.getD i d)).length := by rw [hk]; exact hj
    rw [List.getElem?_eq_getElem h2] at h1 ⊢
    exact hc _ _ h1
end Go.Proofs.YtimgocfkogebmaaGreatDoor
namespace Go.Proofs.YtimgocfkogebmaaGreatDoor
open Go.RowKit Go.ChangeShapes Go.WideShapes Go.Deep
set_option linter.unusedVariables false
def flatT (P : Program) : Nat → TypeId → List TypeId
  | 0, t => [t]
  | n + 1, t => match P.underlying t with
    | some (.struct fs) => fs.toList.flatMap fun f => flatT P n f.type
    | _ => [t]
def flatOK (P : Program) : Nat → TypeId → Bool
  | 0, t => true
  | n + 1, t => match P.underlying t with
    | some (.struct fs) => (List.range fs.size).all fun i => match fs[i]? with
      | some f => flatOK P n f.type && ((f.offset == ((fs.toList.take i).flatMap fun f => flatT P n f.type).length) && (P.cellsOf f.type == (flatT P n f.type).length))
      | none => true
    | _ => true
theorem flat_find {α β : Type} (g : α → List β) : ∀ (L : List α) (j : Nat) (y : β), (L.flatMap g)[j]? = some y → ∃ i x j', L[i]? = some x ∧ (g x)[j']? = some y ∧ j = ((L.take i).flatMap g).length + j'
  | [], j, y, h => by simp at h
  | x :: L, j, y, h => by
    rw [List.flatMap_cons] at h
    rcases Nat.lt_or_ge j (g x).length with hj | hj
    · rw [List.getElem?_append_left hj] at h
      exact ⟨0, x, j, rfl, h, by simp⟩
    · rw [List.getElem?_append_right hj] at h
      obtain ⟨i, x', j', h1, h2, h3⟩ := flat_find g L _ y h
      refine ⟨i + 1, x', j', by simpa using h1, h2, ?_⟩
      rw [List.take_succ_cons, List.flatMap_cons, List.length_append]
      omega
theorem flat_upto {α β : Type} (g : α → List β) (L : List α) {i : Nat} {x : α} (h : L[i]? = some x) : ((L.take i).flatMap g).length + (g x).length ≤ (L.flatMap g).length := by
  have e : L = L.take i ++ x :: L.drop (i + 1) := by
    have hl : i < L.length := (List.getElem?_eq_some_iff.1 h).1
    have hx : L[i] = x := (List.getElem?_eq_some_iff.1 h).2
    rw [← hx, ← List.drop_eq_getElem_cons hl, List.take_append_drop]
  conv => rhs; rw [e]
  rw [List.flatMap_append, List.flatMap_cons, List.length_append, List.length_append]
  omega
theorem flat_read {H : Type} {enc : TypeId × Value → H} {P : Program} {w : World} : ∀ (n : Nat) (t : TypeId) (fuel : Nat) (cs : List Value) (x : DataW H × List MemPlace), flatOK P n t = true → cs.length = (flatT P n t).length →
    DataW.trod enc P w 0 (fun _ => true) true fuel t cs = some x → Reach P t x.1 →
    ∀ (j : Nat) (u : TypeId), (flatT P n t)[j]? = some u → ∃ (v : Value) (y : DataW H × List MemPlace) (m : Nat), cs[j]? = some v ∧ DataW.trod enc P w 0 (fun _ => true) true m u [v] = some y ∧ Reach P u y.1
  | 0, t, fuel, cs, x, _, hl, h, hR, j, u, hu => by
    unfold flatT at hl hu
    match cs, hl with
    | [v], _ =>
      have hj : j = 0 := by have := (List.getElem?_eq_some_iff.1 hu).1; simp at this; omega
      subst hj
      obtain rfl : t = u := by simpa using hu
      exact ⟨v, x, fuel, rfl, h, hR⟩
  | n + 1, t, fuel, cs, x, hok, hl, h, hR, j, u, hu => by
    cases hs : P.underlying t with
    | none =>
      unfold flatT at hl hu
      rw [hs] at hl hu
      match cs, hl with
      | [v], _ =>
        have hj : j = 0 := by have := (List.getElem?_eq_some_iff.1 hu).1; simp at this; omega
        subst hj
        obtain rfl : t = u := by simpa using hu
        exact ⟨v, x, fuel, rfl, h, hR⟩
    | some d =>
      by_cases hd : ∃ fs, d = .struct fs
      · obtain ⟨fs, rfl⟩ := hd
        unfold flatT at hl hu
        unfold flatOK at hok
        rw [hs] at hl hu hok
        simp only at hl hu hok
        obtain ⟨i, f, j', h1, h2, h3⟩ := flat_find _ _ _ _ hu
        have h1' : fs[i]? = some f := by simpa using h1
        have hil : i < fs.size := (Array.getElem?_eq_some_iff.1 h1').1
        have hf := List.all_eq_true.1 hok i (List.mem_range.2 hil)
        rw [h1'] at hf
        simp only [Bool.and_eq_true, beq_iff_eq] at hf
        obtain ⟨hf1, hf2, hf3⟩ := hf
        obtain ⟨ys, m, _, hys, _, hyl, hrd⟩ := DataW.trod_struct hs h
        have hri := hrd i f h1'
        have hup := flat_upto (fun f : Field => flatT P n f.type) fs.toList h1
        have hyi : i < ys.length := by rw [hyl]; exact hil
        rw [List.getElem?_eq_getElem hyi, hf3] at hri
        have hx : x.1 = .agg (ys.map (·.1)) := by rw [hys]
        rw [hx] at hR
        have hRi := weights_agg hs hR h1' (d := ys[i].1) (by simp [List.getElem?_eq_getElem hyi])
        have hlen : ((cs.drop f.offset).take (flatT P n f.type).length).length = (flatT P n f.type).length := by
          rw [List.length_take, List.length_drop, hl, hf2]
          have := hup
          omega
        obtain ⟨v, y, m', g1, g2, g3⟩ := flat_read n f.type m _ ys[i] hf1 hlen hri hRi j' u h2
        refine ⟨v, y, m', ?_, g2, g3⟩
        have hj' : j' < (flatT P n f.type).length := (List.getElem?_eq_some_iff.1 h2).1
        rw [List.getElem?_take, if_pos hj', List.getElem?_drop] at g1
        rw [h3, ← hf2]
        exact g1
      · unfold flatT at hl hu
        rw [hs] at hl hu
        have e1 : (match some d with | some (.struct fs) => fs.toList.flatMap fun f => flatT P n f.type | _ => [t]) = [t] := by
          split
          · rename_i fs he
            injection he with he
            exact absurd ⟨_, he⟩ hd
          · rfl
        rw [e1] at hl hu
        match cs, hl with
        | [v], _ =>
          have hj : j = 0 := by have := (List.getElem?_eq_some_iff.1 hu).1; simp at this; omega
          subst hj
          obtain rfl : t = u := by simpa using hu
          exact ⟨v, x, fuel, rfl, h, hR⟩
theorem flat_row {H : Type} {enc : TypeId × Value → H} {P : Program} {w : World} {fuel : Nat} {t e : TypeId} {r : Option Addr} {len cap : Nat} {x : DataW H × List MemPlace} (n : Nat) (ts : List TypeId)
    (ht : P.underlying t = some (.slice e)) (hok : flatOK P n e = true) (hts : flatT P n e = ts) (hC : P.cellsOf e = ts.length) (h0 : 0 < ts.length)
    (h : DataW.trod enc P w 0 (fun _ => true) true fuel t [.slice r len cap] = some x) (hR : Reach P t x.1) :
    len ≤ cap ∧ cap ≤ maxLen ∧ (len = 0 ∨ len * P.bytesOf e ≤ 140737488351232 ∧ ∃ b off, r = some ⟨b, off, none⟩ ∧ b < w.heap.size ∧
      ∀ i, i < len → ∀ (j : Nat) (u : TypeId), ts[j]? = some u → ∃ (v : Value) (y : DataW H × List MemPlace) (m : Nat), w.cell? ⟨b, off + (i * ts.length + j), none⟩ = some v ∧ DataW.trod enc P w 0 (fun _ => true) true m u [v] = some y ∧ Reach P u y.1) := by
  subst hts
  rcases open_slice ht h with ⟨hcs, _⟩ | ⟨a, l, c, m, k, D, Pl, hcs, hb, hl, hm, hmm, hx, hi⟩
  · simp at hcs
    obtain ⟨rfl, rfl, rfl⟩ := hcs
    exact ⟨Nat.le_refl _, by simp, .inl rfl⟩
  · simp at hcs
    obtain ⟨rfl, rfl, rfl⟩ := hcs
    refine ⟨hl, hm, ?_⟩
    by_cases hz : len = 0
    · exact .inl hz
    right
    rw [hx] at hR
    obtain ⟨hw1, hw2⟩ := weights_slice ht hR
    simp only [List.length_map, List.length_range] at hw1
    have key : ∀ i, i < len → ∀ (j : Nat) (u : TypeId), (flatT P n e)[j]? = some u → ∃ (v : Value) (y : DataW H × List MemPlace) (m : Nat), w.cell? (a.add (i * (flatT P n e).length + j)) = some v ∧ DataW.trod enc P w 0 (fun _ => true) true m u [v] = some y ∧ Reach P u y.1 := by
      intro i hil j u hj
      obtain ⟨cs', hc, ht'⟩ := hi i (by rw [hmm]; simp; omega)
      rw [hC] at hc
      obtain ⟨_, hcl, hat⟩ := World.cells?_some hc
      have hRi := hw2 (D i) (List.mem_map.2 ⟨i, by simpa using hil, rfl⟩)
      obtain ⟨v, y, m', g1, g2, g3⟩ := flat_read n e k cs' (D i, Pl i) hok hcl ht' hRi j u hj
      have hjl : j < (flatT P n e).length := (List.getElem?_eq_some_iff.1 hj).1
      have hcell := hat j hjl
      refine ⟨v, y, m', by rw [← Go.Deep.add_add, hcell, g1], g2, g3⟩
    refine ⟨Nat.le_trans (Nat.mul_le_mul_right _ (Nat.le_add_right _ _)) hw1, ?_⟩
    obtain ⟨b, off, spot⟩ := a
    obtain ⟨v0, _, _, hv0, _⟩ := key 0 (by omega) 0 _ (List.getElem?_eq_getElem h0)
    simp only [Nat.zero_mul, Nat.add_zero] at hv0
    have hspot : spot = none := by
      have : ((⟨b, off, spot⟩ : Addr).add 0).spot = none := World.cell?_spot hv0
      simpa [Addr.add] using this
    subst hspot
    refine ⟨b, off, rfl, ?_, fun i hil j u hj => ?_⟩
    · rw [add_at] at hv0
      exact World.block_lt_of_cell? w _ hv0
    · obtain ⟨v, y, m', h1, h2⟩ := key i hil j u hj
      rw [add_at] at h1
      exact ⟨v, y, m', h1, h2⟩
theorem row_of {α : Type} (f : α → List Value) (k : Nat) (hk : ∀ x, (f x).length = k) (h0 : 0 < k) (good : α → Prop) (d : α) {w : World} {r : Option Addr} {len cap : Nat} (hl : len ≤ cap) (hm : cap ≤ maxLen)
    (h : len = 0 ∨ ∃ b off, r = some ⟨b, off, none⟩ ∧ b < w.heap.size ∧ ∀ i, i < len → ∃ s, good s ∧ ∀ j, j < k → w.cell? ⟨b, off + (i * k + j), none⟩ = (f s)[j]?) :
    ∃ l : List α, RO f w r len cap l ∧ ∀ s ∈ l, good s := by
  rcases h with rfl | ⟨b, off, rfl, hB, h⟩
  · exact ⟨[], ⟨rfl, hl, hm, .inl rfl⟩, by simp⟩
  · have key : ∀ i, ∃ s : α, i < len → good s ∧ ∀ j, j < k → w.cell? ⟨b, off + (i * k + j), none⟩ = (f s)[j]? := by
      intro i
      by_cases hi : i < len
      · obtain ⟨s, hs⟩ := h i hi; exact ⟨s, fun _ => hs⟩
      · exact ⟨d, fun h => absurd h hi⟩
    let T : Nat → α := fun i => Classical.choose (key i)
    have hT : ∀ i, i < len → good (T i) ∧ ∀ j, j < k → w.cell? ⟨b, off + (i * k + j), none⟩ = (f (T i))[j]? := fun i hi => Classical.choose_spec (key i) hi
    refine ⟨(List.range len).map T, ⟨by simp, hl, hm, .inr ⟨b, off, rfl, hB, fun p u hu => ?_⟩⟩, fun s hs => ?_⟩
    · have hp : p < len * k := by
        have := (List.getElem?_eq_some_iff.1 hu).1
        rw [flat_len hk] at this
        simpa using this
      have hd : p / k < len := Nat.div_lt_of_lt_mul (by rw [Nat.mul_comm]; exact hp)
      have hr : p % k < k := Nat.mod_lt _ h0
      have he : p = p / k * k + p % k := by rw [Nat.mul_comm]; exact (Nat.div_add_mod p k).symm
      rw [he, flat_at hk _ _ _ hr] at hu
      have h1 : ((List.range len).map T)[p / k]? = some (T (p / k)) := by simp [hd]
      rw [h1] at hu
      rw [he, (hT _ hd).2 _ hr]
      exact hu
    · obtain ⟨i, hi, rfl⟩ := List.mem_map.1 hs
      exact (hT i (by simpa using hi)).1
end Go.Proofs.YtimgocfkogebmaaGreatDoor
namespace Go.Proofs.YtimgocfkogebmaaGreatDoor
open Go.RowKit
set_option linter.unusedVariables false
set_option linter.unusedSimpArgs false
abbrev B8 := List UInt8
def byt (s : ByteArray) : B8 := s.data.toList
theorem byt_inj {a b : ByteArray} (h : byt a = byt b) : a = b := ByteArray.ext (Array.toList_inj.1 h)
def lt8 (a b : B8) : Bool := Op.bytesLess a b
theorem lt8_is (a b : B8) : lt8 a b = decide (a < b) := bytesLess_eq a b
theorem lt8_irrefl (a : B8) : lt8 a a = false := by
  rw [lt8_is]; exact decide_eq_false (List.lt_irrefl a)
theorem lt8_trans {a b c : B8} (h : lt8 a b = true) (k : lt8 b c = true) : lt8 a c = true := by
  rw [lt8_is, decide_eq_true_eq] at *
  exact List.lt_trans h k
theorem lt8_tri {a b : B8} (h : lt8 a b = false) (k : lt8 b a = false) : a = b := by
  rw [lt8_is, decide_eq_false_iff_not] at *
  exact List.le_antisymm (List.not_lt.1 k) (List.not_lt.1 h)
theorem lt8_asymm {a b : B8} (h : lt8 a b = true) : lt8 b a = false := by
  cases k : lt8 b a
  · rfl
  · have := lt8_trans h k; rw [lt8_irrefl] at this; cases this
end Go.Proofs.YtimgocfkogebmaaGreatDoor
namespace Go.Proofs.YtimgocfkogebmaaGreatDoor
open Go.RowKit
set_option linter.unusedVariables false
def txts (l : List ByteArray) : List Value := l.map .string
def SeesT (B : Nat) (w : World) (a : Option Addr) (l : List ByteArray) : Prop :=
  l = [] ∨ ∃ b off, a = some ⟨b, off, none⟩ ∧ b < B ∧ ∀ i, i < l.length → w.cell? ⟨b, off + i, none⟩ = some (.string (l.getD i ⟨#[]⟩))
theorem SeesT.below {B : Nat} {w w' : World} {a : Option Addr} {l : List ByteArray} (h : SeesT B w a l) (hb : Below B w w') : SeesT B w' a l := by
  rcases h with h | ⟨b, off, rfl, hB, hc⟩
  · exact .inl h
  · exact .inr ⟨b, off, rfl, hB, fun i hi => (hb.cell (p := ⟨b, off + i, none⟩) hB).trans (hc i hi)⟩
theorem SeesT.mono {B B' : Nat} {w : World} {a : Option Addr} {l : List ByteArray} (h : SeesT B w a l) (hb : B ≤ B') : SeesT B' w a l := by
  rcases h with h | ⟨b, off, rfl, hB, hx⟩
  · exact .inl h
  · exact .inr ⟨b, off, rfl, by omega, hx⟩
end Go.Proofs.YtimgocfkogebmaaGreatDoor
namespace Go.Proofs.YtimgocfkogebmaaGreatDoor
open Go.RowKit Go.ChangeShapes Go.WideShapes Go.Deep
set_option linter.unusedVariables false
set_option linter.unusedSimpArgs false
abbrev e0 : ByteArray := ⟨#[]⟩
structure TT (w : World) (a : Option Addr) (n c : Nat) (l : List ByteArray) : Prop where
  len : n = l.length
  cap : n ≤ c
  max : c ≤ maxLen
  sees : SeesT w.heap.size w a l
theorem TT.below {w w' : World} {a : Option Addr} {n c : Nat} {l : List ByteArray} (h : TT w a n c l) (hb : Below w.heap.size w w') : TT w' a n c l := ⟨h.len, h.cap, h.max, (h.sees.below hb).mono hb.size⟩
theorem TT.drewN {w : World} {a : Option Addr} {n c : Nat} {l : List ByteArray} (h : TT w a n c l) (m : Nat) : TT (w.drewN m) a n c l := ⟨h.len, h.cap, h.max, h.sees⟩
theorem TT.at_ {w : World} {a : Option Addr} {n c : Nat} {l : List ByteArray} (h : TT w a n c l) {k : Nat} (hk : k < l.length) : ∃ b off, a = some ⟨b, off, none⟩ ∧ b < w.heap.size ∧ ∀ i, i < l.length → w.cell? ⟨b, off + i, none⟩ = some (.string (l.getD i e0)) := by
  rcases h.sees with e | ⟨b, off, rfl, hb, hc⟩
  · subst e; simp at hk
  · exact ⟨b, off, rfl, hb, hc⟩
def DrawnB (v : Value) (w : World) (e : Ending) (w' : World) : Prop := e = .returned v ∧ ∃ m, w' = w.drewN m
end Go.Proofs.YtimgocfkogebmaaGreatDoor
namespace Go.Proofs.YtimgocfkogebmaaGreatDoor
open Go.RowKit
set_option linter.unusedVariables false
set_option linter.unusedSimpArgs false
theorem right_b1 (k x y c d n : Int) (h1 : n < 0) (w : World) : Calls Tryz.prog 136 #[.agg #[.int .i64 k, .int .i64 x, .int .i64 y, .int .i64 c, .int .i64 d], .int .i64 n] w (Gives (.bool false) w) := by
  have hB := Lib.hid ((Below.refl w.heap.size w).alloc (Nat.le_refl _) (.cells #[.int .i64 k, .int .i64 x, .int .i64 y, .int .i64 c, .int .i64 d] 73))
  go_enter Tryz.func136, Tryz.ntmps136
  go_wp2
  go_ret
  exact ⟨rfl, hB.out⟩
theorem right_b2 (k x y c d n : Int) (h1 : ¬ n < 0) (h2 : 8 < n) (w : World) : Calls Tryz.prog 136 #[.agg #[.int .i64 k, .int .i64 x, .int .i64 y, .int .i64 c, .int .i64 d], .int .i64 n] w (Gives (.bool false) w) := by
  have hB := Lib.hid ((Below.refl w.heap.size w).alloc (Nat.le_refl _) (.cells #[.int .i64 k, .int .i64 x, .int .i64 y, .int .i64 c, .int .i64 d] 73))
  go_enter Tryz.func136, Tryz.ntmps136
  go_wp2
  go_ret
  exact ⟨rfl, hB.out⟩
theorem right_b3 (k x y c d n : Int) (h1 : ¬ n < 0) (h2 : ¬ 8 < n) (h3 : k < 1) (w : World) : Calls Tryz.prog 136 #[.agg #[.int .i64 k, .int .i64 x, .int .i64 y, .int .i64 c, .int .i64 d], .int .i64 n] w (Gives (.bool false) w) := by
  have hB := Lib.hid ((Below.refl w.heap.size w).alloc (Nat.le_refl _) (.cells #[.int .i64 k, .int .i64 x, .int .i64 y, .int .i64 c, .int .i64 d] 73))
  go_enter Tryz.func136, Tryz.ntmps136
  go_wp2
  go_ret
  exact ⟨rfl, hB.out⟩
theorem right_b4 (k x y c d n : Int) (h1 : ¬ n < 0) (h2 : ¬ 8 < n) (h3 : ¬ k < 1) (h4 : 5 < k) (w : World) : Calls Tryz.prog 136 #[.agg #[.int .i64 k, .int .i64 x, .int .i64 y, .int .i64 c, .int .i64 d], .int .i64 n] w (Gives (.bool false) w) := by
  have hB := Lib.hid ((Below.refl w.heap.size w).alloc (Nat.le_refl _) (.cells #[.int .i64 k, .int .i64 x, .int .i64 y, .int .i64 c, .int .i64 d] 73))
  go_enter Tryz.func136, Tryz.ntmps136
  go_wp2
  go_ret
  exact ⟨rfl, hB.out⟩
theorem right_any (k x y c d n : Int) (w : World) : Calls Tryz.prog 136 #[.agg #[.int .i64 k, .int .i64 x, .int .i64 y, .int .i64 c, .int .i64 d], .int .i64 n] w (Gives (.bool (rightB k x y c d n)) w) := by
  by_cases h1 : n < 0
  · rw [show rightB k x y c d n = false by unfold rightB; rw [if_pos (.inl h1)]]; exact right_b1 k x y c d n h1 w
  by_cases h2 : 8 < n
  · rw [show rightB k x y c d n = false by unfold rightB; rw [if_pos (.inr (.inl h2))]]; exact right_b2 k x y c d n h1 h2 w
  by_cases h3 : k < 1
  · rw [show rightB k x y c d n = false by unfold rightB; rw [if_pos (.inr (.inr (.inl h3)))]]; exact right_b3 k x y c d n h1 h2 h3 w
  by_cases h4 : 5 < k
  · rw [show rightB k x y c d n = false by unfold rightB; rw [if_pos (.inr (.inr (.inr h4)))]]; exact right_b4 k x y c d n h1 h2 h3 h4 w
  have e : rightB k x y c d n = stmtB k x y c d n := by unfold rightB; rw [if_neg (by omega)]
  rw [e]
  obtain rfl | rfl | rfl | rfl | rfl : k = 1 ∨ k = 2 ∨ k = 3 ∨ k = 4 ∨ k = 5 := by omega
  · exact right_1 x y c d n _ (by omega) (by omega) (fun W => rightSkip_any 1 x y c d n W) w
  · exact right_2 x y c d n _ (by omega) (by omega) (fun W => rightLet_any 2 x y c d n W) w
  · exact right_3 x y c d n _ (by omega) (by omega) (fun W => rightAny_any 3 x y c d n W) w
  · exact right_4 x y c d n _ (by omega) (by omega) (fun W => rightDiff_any 4 x y c d n W) w
  · exact right_5 x y c d n _ (by omega) (by omega) (fun W => rightDiff_any 5 x y c d n W) w
end Go.Proofs.YtimgocfkogebmaaGreatDoor
namespace Go.Proofs.YtimgocfkogebmaaGreatDoor
open Go.RowKit Go.ChangeShapes Go.WideShapes Go.Deep
set_option linter.unusedVariables false
set_option linter.unusedSimpArgs false
structure SpotD where
  fn : ByteArray
  file : ByteArray
  line : Int
structure EdgeD where
  frm : Int
  dst : Int
  k : Int
  x : Int
  y : Int
  c : Int
  d : Int
deriving DecidableEq
structure PD where
  nm : ByteArray
  vars : List ByteArray
  spots : List SpotD
  edges : List EdgeD
def spot0 : SpotD := ⟨e0, e0, 0⟩
def edge0 : EdgeD := ⟨0, 0, 0, 0, 0, 0, 0⟩
def spotC (s : SpotD) : List Value := [.string s.fn, .string s.file, .int .i64 s.line]
def edgeC (e : EdgeD) : List Value := [.int .i64 e.frm, .int .i64 e.dst, .int .i64 e.k, .int .i64 e.x, .int .i64 e.y, .int .i64 e.c, .int .i64 e.d]
theorem spotC_len (s : SpotD) : (spotC s).length = 3 := rfl
theorem edgeC_len (e : EdgeD) : (edgeC e).length = 7 := rfl
structure PV where
  nm : ByteArray
  a1 : Option Addr
  n1 : Nat
  c1 : Nat
  a2 : Option Addr
  n2 : Nat
  c2 : Nat
  a3 : Option Addr
  n3 : Nat
  c3 : Nat
abbrev PV.cells (p : PV) : Array Value := #[.string p.nm, .slice p.a1 p.n1 p.c1, .slice p.a2 p.n2 p.c2, .slice p.a3 p.n3 p.c3]
structure PrA (w : World) (p : PV) (D : PD) : Prop where
  nm : p.nm = D.nm
  vars : TT w p.a1 p.n1 p.c1 D.vars
  spots : RO spotC w p.a2 p.n2 p.c2 D.spots
  edges : RO edgeC w p.a3 p.n3 p.c3 D.edges
theorem PrA.below {w w' : World} {p : PV} {D : PD} (h : PrA w p D) (hb : Below w.heap.size w w') : PrA w' p D := ⟨h.nm, h.vars.below hb, h.spots.below hb, h.edges.below hb⟩
theorem PrA.drewN {w : World} {p : PV} {D : PD} (h : PrA w p D) (n : Nat) : PrA (w.drewN n) p D := h.below (Below.drewN (Below.refl _ _) n)
end Go.Proofs.YtimgocfkogebmaaGreatDoor
namespace Go.Proofs.YtimgocfkogebmaaGreatDoor
open Go.RowKit
set_option linter.unusedVariables false
set_option linter.unusedSimpArgs false
def takB (s : ByteArray) : Bool := (s.toList == [115, 107, 105, 112]) || ((s.toList == [97, 110, 121]) || ((s.toList == [108, 105, 109, 105, 116]) || ((s.toList == [99, 104, 101, 99, 107]) || ((s.toList == [105, 110, 102])))))
def varB (l : List ByteArray) (i : Nat) : Bool := nameB (l.getD i e0) && (!takB (l.getD i e0) && !Lib.containsS (l.take i) (l.getD i e0))
def varsB (l : List ByteArray) : Bool := decide (l.length ≤ 8) && (List.range l.length).all (varB l)
theorem vars_no {l : List ByteArray} {k : Nat} (hk : k < l.length) (h : varB l k = false) : varsB l = false := by
  unfold varsB
  rw [show (List.range l.length).all (varB l) = false by rw [List.all_eq_false]; exact ⟨k, List.mem_range.2 hk, by rw [h]; simp⟩, Bool.and_false]
theorem vars_yes {l : List ByteArray} (hl : l.length ≤ 8) (h : ∀ t, t < l.length → varB l t = true) : varsB l = true := by
  unfold varsB
  rw [decide_eq_true hl, Bool.true_and, List.all_eq_true]
  exact fun t ht => h t (List.mem_range.1 ht)
theorem vars_long {l : List ByteArray} (hl : ¬ l.length ≤ 8) : varsB l = false := by unfold varsB; rw [decide_eq_false hl, Bool.false_and]
set_option maxRecDepth 100000 in
theorem taken_any (s : ByteArray) (w : World) : Calls Tryz.prog 150 #[.string s] w (SetTo (.bool (takB s)) w) := by
  cases h0 : (s.toList == [115, 107, 105, 112])
  rotate_left
  · have hR : Hid (takB s = true) := Lib.hid (by unfold takB; simp only [h0, Bool.true_or, Bool.false_or, Bool.or_true])
    generalize takB s = R at *
    go_enter Tryz.func150, Tryz.ntmps150
    go_wp2
    go_ret
    exact ⟨ret_bool hR.out.symm, rfl⟩
  cases h1 : (s.toList == [97, 110, 121])
  rotate_left
  · have hR : Hid (takB s = true) := Lib.hid (by unfold takB; simp only [h0, h1, Bool.true_or, Bool.false_or, Bool.or_true])
    generalize takB s = R at *
    go_enter Tryz.func150, Tryz.ntmps150
    go_wp2
    go_ret
    exact ⟨ret_bool hR.out.symm, rfl⟩
  cases h2 : (s.toList == [108, 105, 109, 105, 116])
  rotate_left
  · have hR : Hid (takB s = true) := Lib.hid (by unfold takB; simp only [h0, h1, h2, Bool.true_or, Bool.false_or, Bool.or_true])
    generalize takB s = R at *
    go_enter Tryz.func150, Tryz.ntmps150
    go_wp2
    go_ret
    exact ⟨ret_bool hR.out.symm, rfl⟩
  cases h3 : (s.toList == [99, 104, 101, 99, 107])
  rotate_left
  · have hR : Hid (takB s = true) := Lib.hid (by unfold takB; simp only [h0, h1, h2, h3, Bool.true_or, Bool.false_or, Bool.or_true])
    generalize takB s = R at *
    go_enter Tryz.func150, Tryz.ntmps150
    go_wp2
    go_ret
    exact ⟨ret_bool hR.out.symm, rfl⟩
  cases h4 : (s.toList == [105, 110, 102])
  rotate_left
  · have hR : Hid (takB s = true) := Lib.hid (by unfold takB; simp only [h0, h1, h2, h3, h4, Bool.true_or, Bool.false_or, Bool.or_true])
    generalize takB s = R at *
    go_enter Tryz.func150, Tryz.ntmps150
    go_wp2
    go_ret
    exact ⟨ret_bool hR.out.symm, rfl⟩
  have hR : Hid (takB s = false) := Lib.hid (by unfold takB; simp only [h0, h1, h2, h3, h4, Bool.or_false])
  generalize takB s = R at *
  go_enter Tryz.func150, Tryz.ntmps150
  go_wp2
  go_ret
  exact ⟨ret_bool hR.out.symm, rfl⟩
set_option maxRecDepth 100000 in
theorem contains_any (b off : Nat) (n c : Nat) (l : List ByteArray) (x : ByteArray) (hn : n ≤ l.length) (hb : n ≤ 9223372036854775807) (w : World) (hc : ∀ j, j < l.length → w.cell? ⟨b, off + j, none⟩ = some (.string (l.getD j e0))) : Calls Tryz.prog 151 #[.slice (some ⟨b, off, none⟩) n c, .string x] w (SetTo (.bool (Lib.containsS (l.take n) x)) w) :=
  (Tryz.slices_Contains_string b off n c l x w hn hb hc).mono (fun e w' h => ⟨h.1, h.2.symm⟩)
set_option maxRecDepth 100000 in
set_option maxHeartbeats 2000000 in
theorem rightVars_any (a : Option Addr) (n c : Nat) (l : List ByteArray) (w : World) (h : TT w a n c l) : Calls Tryz.prog 108 #[.slice a n c] w (Gives (.bool (varsB l)) w) := by
  have hn : n = l.length := h.len
  have hcap : n ≤ c := h.cap
  have hmax : c ≤ 9223372036854775807 := by have := h.max; unfold maxLen at this; exact this
  by_cases h8 : n ≤ 8
  · have h8i : ¬ (8 : Int) < (n : Int) := by omega
    have hlen := Lib.hid hn
    have T := Lib.hid h
    have hno := Lib.hid (fun k hk h => vars_no (l := l) (k := k) hk h)
    have hyes := Lib.hid (fun h => vars_yes (l := l) (by omega) h)
    clear h hn
    generalize varsB l = R at *
    go_enter Tryz.func108, Tryz.ntmps108
    go_wp2
    go_loopw [10] (fun x wr => ∃ k : Nat, k ≤ n ∧ x = .int .i64 k ∧ Hid (∀ t, t < k → varB l t = true) ∧ Hid (Below w.heap.size w wr)) (fun x _ => n - (intOf x).toNat)
    case atStart => exact ⟨0, Nat.zero_le _, rfl, Lib.hid (fun t ht => by omega), Lib.hid (Below.refl _ _)⟩
    case round =>
      obtain ⟨k, hk, rfl, hal, hB⟩ := hrel
      by_cases hlt : k < n
      · have hki : (k : Int) < (n : Int) := by omega
        have hkl : k < l.length := by rw [← hlen.out]; exact hlt
        obtain ⟨b, off, rfl, hbl, hc⟩ := (T.out.below hB.out).at_ hkl
        have x0 := hc k hkl
        have hkc : k ≤ c := by omega
        have hkc2 : (k : Int) ≤ (c : Int) := by omega
        have hv : Hid (varB l k = (nameB (l.getD k e0) && (!takB (l.getD k e0) && !Lib.containsS (l.take k) (l.getD k e0)))) := Lib.hid rfl
        have hno' := Lib.hid (hno.out k hkl)
        have hyes' : Hid (varB l k = true → ∀ t, t < k + 1 → varB l t = true) := Lib.hid (fun h t ht => by
          by_cases e : t = k
          · rw [e]; exact h
          · exact hal.out t (by omega))
        have q1 := Lib.hid (name_any (l.getD k e0) wr)
        have q2 := Lib.hid (fun W => taken_any (l.getD k e0) W)
        have q3 := Lib.hid (fun W (hW : Below wr.heap.size wr W) => contains_any b off k c l (l.getD k e0) (by omega) (by omega) W (fun j hj => (hW.cell (p := ⟨b, off + j, none⟩) hbl).trans (hc j hj)))
        clear hc hal hno
        generalize varB l k = V at *
        generalize l.getD k e0 = s at *
        cases e1 : nameB s
        · have hf := Lib.hid (hno'.out (by rw [hv.out, e1]; rfl))
          rw [e1] at q1
          clear hno' hyes' hyes hv e1
          go_wp2_with fail
          refine q1.out.mono ?_
          rintro e w1 ⟨rfl, b1⟩
          go_wp2
          go_ret
          exact ⟨ret_bool hf.out.symm, hB.out.trans (b1.mono hB.out.size)⟩
        · rw [e1] at q1 hv
          clear e1
          cases e2 : takB s
          · rw [e2] at q2 hv
            clear e2
            generalize Lib.containsS (l.take k) s = z at *
            cases z
            · have hg := Lib.hid (hyes'.out (by rw [hv.out]; rfl))
              clear hno' hyes' hv
              go_wp2_with fail
              refine q1.out.mono ?_
              rintro e w1 ⟨rfl, b1⟩
              go_wp2_with fail
              refine (q2.out _).mono ?_
              rintro e w2 ⟨rfl, rfl⟩
              go_wp2_with fail
              refine (q3.out _ b1).mono ?_
              rintro e w3 ⟨rfl, rfl⟩
              have hB2 := Lib.hid (hB.out.trans (b1.mono hB.out.size))
              go_wp2
              go_roundw
              case rel => exact ⟨k + 1, by omega, by go_num, hg, hB2⟩
              case measure => simp [intOf]; omega
            · have hf := Lib.hid (hno'.out (by rw [hv.out]; rfl))
              clear hno' hyes' hyes hv
              go_wp2_with fail
              refine q1.out.mono ?_
              rintro e w1 ⟨rfl, b1⟩
              go_wp2_with fail
              refine (q2.out _).mono ?_
              rintro e w2 ⟨rfl, rfl⟩
              go_wp2_with fail
              refine (q3.out _ b1).mono ?_
              rintro e w3 ⟨rfl, rfl⟩
              go_wp2
              go_ret
              exact ⟨ret_bool hf.out.symm, hB.out.trans (b1.mono hB.out.size)⟩
          · have hf := Lib.hid (hno'.out (by rw [hv.out, e2]; rfl))
            rw [e2] at q2
            clear hno' hyes' hyes hv e2
            go_wp2_with fail
            refine q1.out.mono ?_
            rintro e w1 ⟨rfl, b1⟩
            go_wp2_with fail
            refine (q2.out _).mono ?_
            rintro e w2 ⟨rfl, rfl⟩
            go_wp2
            go_ret
            exact ⟨ret_bool hf.out.symm, hB.out.trans (b1.mono hB.out.size)⟩
      · have hki : ¬ (k : Int) < (n : Int) := by omega
        have hf := Lib.hid (hyes.out (fun t ht => hal.out t (by rw [← hlen.out] at ht; omega)))
        clear hyes hno hal
        go_wp2
        go_ret
        exact ⟨ret_bool hf.out.symm, hB.out⟩
  · have h8i : (8 : Int) < (n : Int) := by omega
    have hR := Lib.hid (vars_long (l := l) (by omega))
    clear h hn
    generalize varsB l = R at *
    go_enter Tryz.func108, Tryz.ntmps108
    go_wp2
    go_ret
    exact ⟨ret_bool hR.out.symm, Below.refl _ _⟩
end Go.Proofs.YtimgocfkogebmaaGreatDoor
namespace Go.Proofs.YtimgocfkogebmaaGreatDoor
open Go.RowKit
set_option linter.unusedVariables false
theorem box_below (w : World) (v1 : Array Value) (t1 : TypeId) : Below w.heap.size w (w.alloc (.cells v1 t1)) := (Below.refl _ _).alloc (Nat.le_refl _) _
theorem box2_below (w : World) (v1 v2 : Array Value) (t1 t2 : TypeId) : Below w.heap.size w ((w.alloc (.cells v1 t1)).alloc (.cells v2 t2)) := ((Below.refl _ _).alloc (Nat.le_refl _) _).alloc (by simp) _
structure SL (w : World) (a : Option Addr) (m c : Nat) (l : List Int) : Prop where
  len : m = l.length
  cap : m ≤ c
  max : m ≤ 9223372036854775807
  sees : Sees .i64 w.heap.size w a l
theorem SL.below {w w' : World} {a : Option Addr} {m c : Nat} {l : List Int} (h : SL w a m c l) (hb : Below w.heap.size w w') : SL w' a m c l := ⟨h.len, h.cap, h.max, (h.sees.below hb).mono hb.size⟩
theorem SL.drewN {w : World} {a : Option Addr} {m c : Nat} {l : List Int} (h : SL w a m c l) (n : Nat) : SL (w.drewN n) a m c l := ⟨h.len, h.cap, h.max, h.sees⟩
theorem SL.nil (w : World) : SL w none 0 0 [] := ⟨rfl, Nat.le_refl _, by omega, .inl rfl⟩
def Tells (v : Value) (w : World) (e : Ending) (w' : World) : Prop := e = .returned v ∧ w = w'
theorem sees_num {k : IntKind} {B : Nat} {w : World} {a : Option Addr} {l : List Int} (h : Sees k B w a l) {i : Nat} (hi : i < l.length) : ∃ b off, a = some ⟨b, off, none⟩ ∧ b < B ∧ w.cell? ⟨b, off + i, none⟩ = some (.int k (l.getD i 0)) := by
  rcases h with rfl | ⟨b, off, rfl, hB, hc⟩
  · cases hi
  · exact ⟨b, off, rfl, hB, hc i hi⟩
end Go.Proofs.YtimgocfkogebmaaGreatDoor
namespace Go.Proofs.YtimgocfkogebmaaGreatDoor
open Go.RowKit
set_option linter.unusedVariables false
set_option linter.unusedSimpArgs false
def spotB (s : SpotD) : Bool := nameB s.fn && (fileB s.file && (decide (1 ≤ s.line) && decide (s.line ≤ 1048576)))
def pointB (n : Nat) (x : Int) : Bool := decide (0 ≤ x) && decide (x < (n : Int))
def edgeB (n m : Nat) (e : EdgeD) : Bool := pointB n e.frm && (pointB n e.dst && rightB e.k e.x e.y e.c e.d (m : Int))
set_option maxRecDepth 100000 in
set_option maxHeartbeats 1000000 in
theorem rightSpot_any (s f : ByteArray) (x : Int) (w : World) : Calls Tryz.prog 104 #[.agg #[.string s, .string f, .int .i64 x]] w (Gives (.bool (spotB ⟨s, f, x⟩)) w) := by
  have hR : Hid (spotB ⟨s, f, x⟩ = (nameB s && (fileB f && (decide (1 ≤ x) && decide (x ≤ 1048576))))) := Lib.hid rfl
  have q1 := Lib.hid (fun W => name_any s W)
  have q2 := Lib.hid (fun W => fileName_any f W)
  generalize spotB ⟨s, f, x⟩ = R at *
  cases e1 : nameB s
  · rw [e1] at q1
    have hF : Hid (R = false) := Lib.hid (by rw [hR.out]; rw [e1]; rfl)
    clear hR
    obtain ⟨W1, hW1⟩ : ∃ W1, W1 = w.alloc (.cells #[.string s, .string f, .int .i64 x] 80) := ⟨_, rfl⟩
    have Z : Hid (Holds W1 (w.heap.size) 80 #[.string s, .string f, .int .i64 x]) := Lib.hid (by rw [hW1]; exact Holds.new w _ _)
    have BL := Lib.hid (show Below w.heap.size w W1 by rw [hW1]; exact box_below _ _ _)
    have hW1' := Lib.hid hW1
    clear hW1
    go_enter Tryz.func104, Tryz.ntmps104
    have k1 := Z.out.cell 0
    have k2 := Z.out.cell 1
    have k3 := Z.out.cell 2
    have q := Lib.hid (q1.out W1)
    go_wp2_with fail
    rw [← hW1'.out]
    with_reducible refine q.out.mono ?_
    rintro e u1 ⟨rfl, b1⟩
    clear k1 k2 k3
    clear hW1'
    clear q
    have k4 : u1.cell? ⟨w.heap.size, 0, none⟩ = some (.string s) := (Z.out.below b1 Z.out.lt).cell 0
    have k5 : u1.cell? ⟨w.heap.size, 1, none⟩ = some (.string f) := (Z.out.below b1 Z.out.lt).cell 1
    have k6 : u1.cell? ⟨w.heap.size, 2, none⟩ = some (.int .i64 x) := (Z.out.below b1 Z.out.lt).cell 2
    replace Z := Lib.hid (Z.out.below b1 Z.out.lt)
    replace BL := Lib.hid (BL.out.trans (b1.mono BL.out.size))
    clear b1
    go_wp2
    go_ret
    exact ⟨ret_bool hF.out.symm, BL.out⟩
  rw [e1] at q1
  cases e2 : fileB f
  · rw [e2] at q2
    have hF : Hid (R = false) := Lib.hid (by rw [hR.out]; rw [e1, e2]; rfl)
    clear hR
    obtain ⟨W1, hW1⟩ : ∃ W1, W1 = w.alloc (.cells #[.string s, .string f, .int .i64 x] 80) := ⟨_, rfl⟩
    have Z : Hid (Holds W1 (w.heap.size) 80 #[.string s, .string f, .int .i64 x]) := Lib.hid (by rw [hW1]; exact Holds.new w _ _)
    have BL := Lib.hid (show Below w.heap.size w W1 by rw [hW1]; exact box_below _ _ _)
    have hW1' := Lib.hid hW1
    clear hW1
    go_enter Tryz.func104, Tryz.ntmps104
    have k1 := Z.out.cell 0
    have k2 := Z.out.cell 1
    have k3 := Z.out.cell 2
    have q := Lib.hid (q1.out W1)
    go_wp2_with fail
    rw [← hW1'.out]
    with_reducible refine q.out.mono ?_
    rintro e u1 ⟨rfl, b1⟩
    clear k1 k2 k3
    clear hW1'
    clear q
    have k4 : u1.cell? ⟨w.heap.size, 0, none⟩ = some (.string s) := (Z.out.below b1 Z.out.lt).cell 0
    have k5 : u1.cell? ⟨w.heap.size, 1, none⟩ = some (.string f) := (Z.out.below b1 Z.out.lt).cell 1
    have k6 : u1.cell? ⟨w.heap.size, 2, none⟩ = some (.int .i64 x) := (Z.out.below b1 Z.out.lt).cell 2
    replace Z := Lib.hid (Z.out.below b1 Z.out.lt)
    replace BL := Lib.hid (BL.out.trans (b1.mono BL.out.size))
    clear b1
    have q := Lib.hid (q2.out u1)
    go_wp2_with fail
    with_reducible refine q.out.mono ?_
    rintro e u2 ⟨rfl, b2⟩
    clear k4 k5 k6
    clear q
    have k7 : u2.cell? ⟨w.heap.size, 0, none⟩ = some (.string s) := (Z.out.below b2 Z.out.lt).cell 0
    have k8 : u2.cell? ⟨w.heap.size, 1, none⟩ = some (.string f) := (Z.out.below b2 Z.out.lt).cell 1
    have k9 : u2.cell? ⟨w.heap.size, 2, none⟩ = some (.int .i64 x) := (Z.out.below b2 Z.out.lt).cell 2
    replace Z := Lib.hid (Z.out.below b2 Z.out.lt)
    replace BL := Lib.hid (BL.out.trans (b2.mono BL.out.size))
    clear b2
    go_wp2
    go_ret
    exact ⟨ret_bool hF.out.symm, BL.out⟩
  rw [e2] at q2
  by_cases h1 : 1 ≤ x
  · have hF : Hid (R = decide (x ≤ 1048576)) := Lib.hid (by rw [hR.out]; rw [e1, e2, decide_eq_true h1]; rfl)
    clear hR
    obtain ⟨W1, hW1⟩ : ∃ W1, W1 = w.alloc (.cells #[.string s, .string f, .int .i64 x] 80) := ⟨_, rfl⟩
    have Z : Hid (Holds W1 (w.heap.size) 80 #[.string s, .string f, .int .i64 x]) := Lib.hid (by rw [hW1]; exact Holds.new w _ _)
    have BL := Lib.hid (show Below w.heap.size w W1 by rw [hW1]; exact box_below _ _ _)
    have hW1' := Lib.hid hW1
    clear hW1
    go_enter Tryz.func104, Tryz.ntmps104
    have k1 := Z.out.cell 0
    have k2 := Z.out.cell 1
    have k3 := Z.out.cell 2
    have q := Lib.hid (q1.out W1)
    go_wp2_with fail
    rw [← hW1'.out]
    with_reducible refine q.out.mono ?_
    rintro e u1 ⟨rfl, b1⟩
    clear k1 k2 k3
    clear hW1'
    clear q
    have k4 : u1.cell? ⟨w.heap.size, 0, none⟩ = some (.string s) := (Z.out.below b1 Z.out.lt).cell 0
    have k5 : u1.cell? ⟨w.heap.size, 1, none⟩ = some (.string f) := (Z.out.below b1 Z.out.lt).cell 1
    have k6 : u1.cell? ⟨w.heap.size, 2, none⟩ = some (.int .i64 x) := (Z.out.below b1 Z.out.lt).cell 2
    replace Z := Lib.hid (Z.out.below b1 Z.out.lt)
    replace BL := Lib.hid (BL.out.trans (b1.mono BL.out.size))
    clear b1
    have q := Lib.hid (q2.out u1)
    go_wp2_with fail
    with_reducible refine q.out.mono ?_
    rintro e u2 ⟨rfl, b2⟩
    clear k4 k5 k6
    clear q
    have k7 : u2.cell? ⟨w.heap.size, 0, none⟩ = some (.string s) := (Z.out.below b2 Z.out.lt).cell 0
    have k8 : u2.cell? ⟨w.heap.size, 1, none⟩ = some (.string f) := (Z.out.below b2 Z.out.lt).cell 1
    have k9 : u2.cell? ⟨w.heap.size, 2, none⟩ = some (.int .i64 x) := (Z.out.below b2 Z.out.lt).cell 2
    replace Z := Lib.hid (Z.out.below b2 Z.out.lt)
    replace BL := Lib.hid (BL.out.trans (b2.mono BL.out.size))
    clear b2
    go_wp2
    go_ret
    exact ⟨ret_bool hF.out.symm, BL.out⟩
  · have hF : Hid (R = false) := Lib.hid (by rw [hR.out]; rw [e1, e2, decide_eq_false h1]; rfl)
    clear hR
    obtain ⟨W1, hW1⟩ : ∃ W1, W1 = w.alloc (.cells #[.string s, .string f, .int .i64 x] 80) := ⟨_, rfl⟩
    have Z : Hid (Holds W1 (w.heap.size) 80 #[.string s, .string f, .int .i64 x]) := Lib.hid (by rw [hW1]; exact Holds.new w _ _)
    have BL := Lib.hid (show Below w.heap.size w W1 by rw [hW1]; exact box_below _ _ _)
    have hW1' := Lib.hid hW1
    clear hW1
    go_enter Tryz.func104, Tryz.ntmps104
    have k1 := Z.out.cell 0
    have k2 := Z.out.cell 1
    have k3 := Z.out.cell 2
    have q := Lib.hid (q1.out W1)
    go_wp2_with fail
    rw [← hW1'.out]
    with_reducible refine q.out.mono ?_
    rintro e u1 ⟨rfl, b1⟩
    clear k1 k2 k3
    clear hW1'
    clear q
    have k4 : u1.cell? ⟨w.heap.size, 0, none⟩ = some (.string s) := (Z.out.below b1 Z.out.lt).cell 0
    have k5 : u1.cell? ⟨w.heap.size, 1, none⟩ = some (.string f) := (Z.out.below b1 Z.out.lt).cell 1
    have k6 : u1.cell? ⟨w.heap.size, 2, none⟩ = some (.int .i64 x) := (Z.out.below b1 Z.out.lt).cell 2
    replace Z := Lib.hid (Z.out.below b1 Z.out.lt)
    replace BL := Lib.hid (BL.out.trans (b1.mono BL.out.size))
    clear b1
    have q := Lib.hid (q2.out u1)
    go_wp2_with fail
    with_reducible refine q.out.mono ?_
    rintro e u2 ⟨rfl, b2⟩
    clear k4 k5 k6
    clear q
    have k7 : u2.cell? ⟨w.heap.size, 0, none⟩ = some (.string s) := (Z.out.below b2 Z.out.lt).cell 0
    have k8 : u2.cell? ⟨w.heap.size, 1, none⟩ = some (.string f) := (Z.out.below b2 Z.out.lt).cell 1
    have k9 : u2.cell? ⟨w.heap.size, 2, none⟩ = some (.int .i64 x) := (Z.out.below b2 Z.out.lt).cell 2
    replace Z := Lib.hid (Z.out.below b2 Z.out.lt)
    replace BL := Lib.hid (BL.out.trans (b2.mono BL.out.size))
    clear b2
    go_wp2
    go_ret
    exact ⟨ret_bool hF.out.symm, BL.out⟩
set_option maxRecDepth 100000 in
set_option maxHeartbeats 1000000 in
theorem badSpot_any (s f : ByteArray) (x : Int) (w : World) : Calls Tryz.prog 103 #[.agg #[.string s, .string f, .int .i64 x]] w (Gives (.bool (!spotB ⟨s, f, x⟩)) w) := by
  have q1 := Lib.hid (fun W => rightSpot_any s f x W)
  generalize spotB ⟨s, f, x⟩ = R at *
  obtain ⟨W1, hW1⟩ : ∃ W1, W1 = w.alloc (.cells #[.string s, .string f, .int .i64 x] 80) := ⟨_, rfl⟩
  have Z : Hid (Holds W1 (w.heap.size) 80 #[.string s, .string f, .int .i64 x]) := Lib.hid (by rw [hW1]; exact Holds.new w _ _)
  have BL := Lib.hid (show Below w.heap.size w W1 by rw [hW1]; exact box_below _ _ _)
  have hW1' := Lib.hid hW1
  clear hW1
  go_enter Tryz.func103, Tryz.ntmps103
  have k1 := Z.out.cell 0
  have k2 := Z.out.cell 1
  have k3 := Z.out.cell 2
  have q := Lib.hid (q1.out W1)
  go_wp2_with fail
  rw [← hW1'.out]
  with_reducible refine q.out.mono ?_
  rintro e u1 ⟨rfl, b1⟩
  clear k1 k2 k3
  clear hW1'
  clear q
  replace Z := Lib.hid (Z.out.below b1 Z.out.lt)
  replace BL := Lib.hid (BL.out.trans (b1.mono BL.out.size))
  clear b1
  go_wp2
  go_ret
  exact ⟨rfl, BL.out⟩
set_option maxRecDepth 100000 in
theorem isPoint_any (p : PV) (x : Int) (w : World) : Calls Tryz.prog 147 #[.agg #[.string p.nm, .slice p.a1 p.n1 p.c1, .slice p.a2 p.n2 p.c2, .slice p.a3 p.n3 p.c3], .int .i64 x] w (Gives (.bool (pointB p.n2 x)) w) := by
  have hR : Hid (pointB p.n2 x = (decide (0 ≤ x) && decide (x < (p.n2 : Int)))) := Lib.hid rfl
  have hB := Lib.hid (box_below w #[.string p.nm, .slice p.a1 p.n1 p.c1, .slice p.a2 p.n2 p.c2, .slice p.a3 p.n3 p.c3] 38)
  by_cases h : 0 ≤ x
  · have hF : Hid (pointB p.n2 x = decide (x < (p.n2 : Int))) := Lib.hid (by rw [hR.out, decide_eq_true h]; rfl)
    go_enter Tryz.func147, Tryz.ntmps147
    go_wp2
    go_ret
    exact ⟨ret_bool hF.out.symm, hB.out⟩
  · have hF : Hid (pointB p.n2 x = false) := Lib.hid (by rw [hR.out, decide_eq_false h]; rfl)
    go_enter Tryz.func147, Tryz.ntmps147
    go_wp2
    go_ret
    exact ⟨ret_bool hF.out.symm, hB.out⟩
set_option maxRecDepth 100000 in
set_option maxHeartbeats 1000000 in
theorem rightEdge_any (p : PV) (fr ds k x y c d : Int) (w : World) : Calls Tryz.prog 106 #[.agg #[.string p.nm, .slice p.a1 p.n1 p.c1, .slice p.a2 p.n2 p.c2, .slice p.a3 p.n3 p.c3], .agg #[.int .i64 fr, .int .i64 ds, .int .i64 k, .int .i64 x, .int .i64 y, .int .i64 c, .int .i64 d]] w (Gives (.bool (edgeB p.n2 p.n1 ⟨fr, ds, k, x, y, c, d⟩)) w) := by
  have hR : Hid (edgeB p.n2 p.n1 ⟨fr, ds, k, x, y, c, d⟩ = (pointB p.n2 fr && (pointB p.n2 ds && rightB k x y c d (p.n1 : Int)))) := Lib.hid rfl
  have q1 := Lib.hid (fun W => isPoint_any p fr W)
  have q2 := Lib.hid (fun W => isPoint_any p ds W)
  have q3 := Lib.hid (fun W => right_any k x y c d (p.n1 : Int) W)
  generalize edgeB p.n2 p.n1 ⟨fr, ds, k, x, y, c, d⟩ = R at *
  generalize rightB k x y c d (p.n1 : Int) = b3 at *
  generalize pointB p.n2 fr = b1 at *
  generalize pointB p.n2 ds = b2 at *
  cases b1
  · have hF : Hid (R = false) := Lib.hid (by rw [hR.out]; rfl)
    clear hR
    obtain ⟨W1, hW1⟩ : ∃ W1, W1 = (w.alloc (.cells #[.string p.nm, .slice p.a1 p.n1 p.c1, .slice p.a2 p.n2 p.c2, .slice p.a3 p.n3 p.c3] 38)).alloc (.cells #[.int .i64 fr, .int .i64 ds, .int .i64 k, .int .i64 x, .int .i64 y, .int .i64 c, .int .i64 d] 75) := ⟨_, rfl⟩
    have Z : Hid (Holds W1 (w.heap.size) 38 #[.string p.nm, .slice p.a1 p.n1 p.c1, .slice p.a2 p.n2 p.c2, .slice p.a3 p.n3 p.c3]) := Lib.hid (by rw [hW1]; exact (Holds.new w _ _).alloc _)
    have V : Hid (Holds W1 (w.heap.size + 1) 75 #[.int .i64 fr, .int .i64 ds, .int .i64 k, .int .i64 x, .int .i64 y, .int .i64 c, .int .i64 d]) := Lib.hid (by rw [hW1]; have := Holds.new (w.alloc (.cells #[.string p.nm, .slice p.a1 p.n1 p.c1, .slice p.a2 p.n2 p.c2, .slice p.a3 p.n3 p.c3] 38)) 75 #[.int .i64 fr, .int .i64 ds, .int .i64 k, .int .i64 x, .int .i64 y, .int .i64 c, .int .i64 d]; simpa using this)
    have BL := Lib.hid (show Below w.heap.size w W1 by rw [hW1]; exact box2_below _ _ _ _ _)
    have hW1' := Lib.hid hW1
    clear hW1
    go_enter Tryz.func106, Tryz.ntmps106
    have k1 := Z.out.cell 0
    have k2 := Z.out.cell 1
    have k3 := Z.out.cell 2
    have k4 := Z.out.cell 3
    have k5 := V.out.cell 0
    have k6 := V.out.cell 1
    have k7 := V.out.cell 2
    have k8 := V.out.cell 3
    have k9 := V.out.cell 4
    have k10 := V.out.cell 5
    have k11 := V.out.cell 6
    have q := Lib.hid (q1.out W1)
    go_wp2_with fail
    rw [← hW1'.out]
    with_reducible refine q.out.mono ?_
    rintro e u1 ⟨rfl, b1⟩
    clear k1 k2 k3 k4 k5 k6 k7 k8 k9 k10 k11
    clear hW1'
    clear q
    have k12 : u1.cell? ⟨w.heap.size, 0, none⟩ = some (.string p.nm) := (Z.out.below b1 Z.out.lt).cell 0
    have k13 : u1.cell? ⟨w.heap.size, 1, none⟩ = some (.slice p.a1 p.n1 p.c1) := (Z.out.below b1 Z.out.lt).cell 1
    have k14 : u1.cell? ⟨w.heap.size, 2, none⟩ = some (.slice p.a2 p.n2 p.c2) := (Z.out.below b1 Z.out.lt).cell 2
    have k15 : u1.cell? ⟨w.heap.size, 3, none⟩ = some (.slice p.a3 p.n3 p.c3) := (Z.out.below b1 Z.out.lt).cell 3
    have k16 : u1.cell? ⟨w.heap.size + 1, 0, none⟩ = some (.int .i64 fr) := (V.out.below b1 V.out.lt).cell 0
    have k17 : u1.cell? ⟨w.heap.size + 1, 1, none⟩ = some (.int .i64 ds) := (V.out.below b1 V.out.lt).cell 1
    have k18 : u1.cell? ⟨w.heap.size + 1, 2, none⟩ = some (.int .i64 k) := (V.out.below b1 V.out.lt).cell 2
    have k19 : u1.cell? ⟨w.heap.size + 1, 3, none⟩ = some (.int .i64 x) := (V.out.below b1 V.out.lt).cell 3
    have k20 : u1.cell? ⟨w.heap.size + 1, 4, none⟩ = some (.int .i64 y) := (V.out.below b1 V.out.lt).cell 4
    have k21 : u1.cell? ⟨w.heap.size + 1, 5, none⟩ = some (.int .i64 c) := (V.out.below b1 V.out.lt).cell 5
    have k22 : u1.cell? ⟨w.heap.size + 1, 6, none⟩ = some (.int .i64 d) := (V.out.below b1 V.out.lt).cell 6
    replace Z := Lib.hid (Z.out.below b1 Z.out.lt)
    replace V := Lib.hid (V.out.below b1 V.out.lt)
    replace BL := Lib.hid (BL.out.trans (b1.mono BL.out.size))
    clear b1
    go_wp2
    go_ret
    exact ⟨ret_bool hF.out.symm, BL.out⟩
  cases b2
  · have hF : Hid (R = false) := Lib.hid (by rw [hR.out]; rfl)
    clear hR
    obtain ⟨W1, hW1⟩ : ∃ W1, W1 = (w.alloc (.cells #[.string p.nm, .slice p.a1 p.n1 p.c1, .slice p.a2 p.n2 p.c2, .slice p.a3 p.n3 p.c3] 38)).alloc (.cells #[.int .i64 fr, .int .i64 ds, .int .i64 k, .int .i64 x, .int .i64 y, .int .i64 c, .int .i64 d] 75) := ⟨_, rfl⟩
    have Z : Hid (Holds W1 (w.heap.size) 38 #[.string p.nm, .slice p.a1 p.n1 p.c1, .slice p.a2 p.n2 p.c2, .slice p.a3 p.n3 p.c3]) := Lib.hid (by rw [hW1]; exact (Holds.new w _ _).alloc _)
    have V : Hid (Holds W1 (w.heap.size + 1) 75 #[.int .i64 fr, .int .i64 ds, .int .i64 k, .int .i64 x, .int .i64 y, .int .i64 c, .int .i64 d]) := Lib.hid (by rw [hW1]; have := Holds.new (w.alloc (.cells #[.string p.nm, .slice p.a1 p.n1 p.c1, .slice p.a2 p.n2 p.c2, .slice p.a3 p.n3 p.c3] 38)) 75 #[.int .i64 fr, .int .i64 ds, .int .i64 k, .int .i64 x, .int .i64 y, .int .i64 c, .int .i64 d]; simpa using this)
    have BL := Lib.hid (show Below w.heap.size w W1 by rw [hW1]; exact box2_below _ _ _ _ _)
    have hW1' := Lib.hid hW1
    clear hW1
    go_enter Tryz.func106, Tryz.ntmps106
    have k1 := Z.out.cell 0
    have k2 := Z.out.cell 1
    have k3 := Z.out.cell 2
    have k4 := Z.out.cell 3
    have k5 := V.out.cell 0
    have k6 := V.out.cell 1
    have k7 := V.out.cell 2
    have k8 := V.out.cell 3
    have k9 := V.out.cell 4
    have k10 := V.out.cell 5
    have k11 := V.out.cell 6
    have q := Lib.hid (q1.out W1)
    go_wp2_with fail
    rw [← hW1'.out]
    with_reducible refine q.out.mono ?_
    rintro e u1 ⟨rfl, b1⟩
    clear k1 k2 k3 k4 k5 k6 k7 k8 k9 k10 k11
    clear hW1'
    clear q
    have k12 : u1.cell? ⟨w.heap.size, 0, none⟩ = some (.string p.nm) := (Z.out.below b1 Z.out.lt).cell 0
    have k13 : u1.cell? ⟨w.heap.size, 1, none⟩ = some (.slice p.a1 p.n1 p.c1) := (Z.out.below b1 Z.out.lt).cell 1
    have k14 : u1.cell? ⟨w.heap.size, 2, none⟩ = some (.slice p.a2 p.n2 p.c2) := (Z.out.below b1 Z.out.lt).cell 2
    have k15 : u1.cell? ⟨w.heap.size, 3, none⟩ = some (.slice p.a3 p.n3 p.c3) := (Z.out.below b1 Z.out.lt).cell 3
    have k16 : u1.cell? ⟨w.heap.size + 1, 0, none⟩ = some (.int .i64 fr) := (V.out.below b1 V.out.lt).cell 0
    have k17 : u1.cell? ⟨w.heap.size + 1, 1, none⟩ = some (.int .i64 ds) := (V.out.below b1 V.out.lt).cell 1
    have k18 : u1.cell? ⟨w.heap.size + 1, 2, none⟩ = some (.int .i64 k) := (V.out.below b1 V.out.lt).cell 2
    have k19 : u1.cell? ⟨w.heap.size + 1, 3, none⟩ = some (.int .i64 x) := (V.out.below b1 V.out.lt).cell 3
    have k20 : u1.cell? ⟨w.heap.size + 1, 4, none⟩ = some (.int .i64 y) := (V.out.below b1 V.out.lt).cell 4
    have k21 : u1.cell? ⟨w.heap.size + 1, 5, none⟩ = some (.int .i64 c) := (V.out.below b1 V.out.lt).cell 5
    have k22 : u1.cell? ⟨w.heap.size + 1, 6, none⟩ = some (.int .i64 d) := (V.out.below b1 V.out.lt).cell 6
    replace Z := Lib.hid (Z.out.below b1 Z.out.lt)
    replace V := Lib.hid (V.out.below b1 V.out.lt)
    replace BL := Lib.hid (BL.out.trans (b1.mono BL.out.size))
    clear b1
    have q := Lib.hid (q2.out u1)
    go_wp2_with fail
    with_reducible refine q.out.mono ?_
    rintro e u2 ⟨rfl, b2⟩
    clear k12 k13 k14 k15 k16 k17 k18 k19 k20 k21 k22
    clear q
    have k23 : u2.cell? ⟨w.heap.size, 0, none⟩ = some (.string p.nm) := (Z.out.below b2 Z.out.lt).cell 0
    have k24 : u2.cell? ⟨w.heap.size, 1, none⟩ = some (.slice p.a1 p.n1 p.c1) := (Z.out.below b2 Z.out.lt).cell 1
    have k25 : u2.cell? ⟨w.heap.size, 2, none⟩ = some (.slice p.a2 p.n2 p.c2) := (Z.out.below b2 Z.out.lt).cell 2
    have k26 : u2.cell? ⟨w.heap.size, 3, none⟩ = some (.slice p.a3 p.n3 p.c3) := (Z.out.below b2 Z.out.lt).cell 3
    have k27 : u2.cell? ⟨w.heap.size + 1, 0, none⟩ = some (.int .i64 fr) := (V.out.below b2 V.out.lt).cell 0
    have k28 : u2.cell? ⟨w.heap.size + 1, 1, none⟩ = some (.int .i64 ds) := (V.out.below b2 V.out.lt).cell 1
    have k29 : u2.cell? ⟨w.heap.size + 1, 2, none⟩ = some (.int .i64 k) := (V.out.below b2 V.out.lt).cell 2
    have k30 : u2.cell? ⟨w.heap.size + 1, 3, none⟩ = some (.int .i64 x) := (V.out.below b2 V.out.lt).cell 3
    have k31 : u2.cell? ⟨w.heap.size + 1, 4, none⟩ = some (.int .i64 y) := (V.out.below b2 V.out.lt).cell 4
    have k32 : u2.cell? ⟨w.heap.size + 1, 5, none⟩ = some (.int .i64 c) := (V.out.below b2 V.out.lt).cell 5
    have k33 : u2.cell? ⟨w.heap.size + 1, 6, none⟩ = some (.int .i64 d) := (V.out.below b2 V.out.lt).cell 6
    replace Z := Lib.hid (Z.out.below b2 Z.out.lt)
    replace V := Lib.hid (V.out.below b2 V.out.lt)
    replace BL := Lib.hid (BL.out.trans (b2.mono BL.out.size))
    clear b2
    go_wp2
    go_ret
    exact ⟨ret_bool hF.out.symm, BL.out⟩
  have hF : Hid (R = b3) := Lib.hid (by rw [hR.out]; rfl)
  clear hR
  obtain ⟨W1, hW1⟩ : ∃ W1, W1 = (w.alloc (.cells #[.string p.nm, .slice p.a1 p.n1 p.c1, .slice p.a2 p.n2 p.c2, .slice p.a3 p.n3 p.c3] 38)).alloc (.cells #[.int .i64 fr, .int .i64 ds, .int .i64 k, .int .i64 x, .int .i64 y, .int .i64 c, .int .i64 d] 75) := ⟨_, rfl⟩
  have Z : Hid (Holds W1 (w.heap.size) 38 #[.string p.nm, .slice p.a1 p.n1 p.c1, .slice p.a2 p.n2 p.c2, .slice p.a3 p.n3 p.c3]) := Lib.hid (by rw [hW1]; exact (Holds.new w _ _).alloc _)
  have V : Hid (Holds W1 (w.heap.size + 1) 75 #[.int .i64 fr, .int .i64 ds, .int .i64 k, .int .i64 x, .int .i64 y, .int .i64 c, .int .i64 d]) := Lib.hid (by rw [hW1]; have := Holds.new (w.alloc (.cells #[.string p.nm, .slice p.a1 p.n1 p.c1, .slice p.a2 p.n2 p.c2, .slice p.a3 p.n3 p.c3] 38)) 75 #[.int .i64 fr, .int .i64 ds, .int .i64 k, .int .i64 x, .int .i64 y, .int .i64 c, .int .i64 d]; simpa using this)
  have BL := Lib.hid (show Below w.heap.size w W1 by rw [hW1]; exact box2_below _ _ _ _ _)
  have hW1' := Lib.hid hW1
  clear hW1
  go_enter Tryz.func106, Tryz.ntmps106
  have k1 := Z.out.cell 0
  have k2 := Z.out.cell 1
  have k3 := Z.out.cell 2
  have k4 := Z.out.cell 3
  have k5 := V.out.cell 0
  have k6 := V.out.cell 1
  have k7 := V.out.cell 2
  have k8 := V.out.cell 3
  have k9 := V.out.cell 4
  have k10 := V.out.cell 5
  have k11 := V.out.cell 6
  have q := Lib.hid (q1.out W1)
  go_wp2_with fail
  rw [← hW1'.out]
  with_reducible refine q.out.mono ?_
  rintro e u1 ⟨rfl, b1⟩
  clear k1 k2 k3 k4 k5 k6 k7 k8 k9 k10 k11
  clear hW1'
  clear q
  have k12 : u1.cell? ⟨w.heap.size, 0, none⟩ = some (.string p.nm) := (Z.out.below b1 Z.out.lt).cell 0
  have k13 : u1.cell? ⟨w.heap.size, 1, none⟩ = some (.slice p.a1 p.n1 p.c1) := (Z.out.below b1 Z.out.lt).cell 1
  have k14 : u1.cell? ⟨w.heap.size, 2, none⟩ = some (.slice p.a2 p.n2 p.c2) := (Z.out.below b1 Z.out.lt).cell 2
  have k15 : u1.cell? ⟨w.heap.size, 3, none⟩ = some (.slice p.a3 p.n3 p.c3) := (Z.out.below b1 Z.out.lt).cell 3
  have k16 : u1.cell? ⟨w.heap.size + 1, 0, none⟩ = some (.int .i64 fr) := (V.out.below b1 V.out.lt).cell 0
  have k17 : u1.cell? ⟨w.heap.size + 1, 1, none⟩ = some (.int .i64 ds) := (V.out.below b1 V.out.lt).cell 1
  have k18 : u1.cell? ⟨w.heap.size + 1, 2, none⟩ = some (.int .i64 k) := (V.out.below b1 V.out.lt).cell 2
  have k19 : u1.cell? ⟨w.heap.size + 1, 3, none⟩ = some (.int .i64 x) := (V.out.below b1 V.out.lt).cell 3
  have k20 : u1.cell? ⟨w.heap.size + 1, 4, none⟩ = some (.int .i64 y) := (V.out.below b1 V.out.lt).cell 4
  have k21 : u1.cell? ⟨w.heap.size + 1, 5, none⟩ = some (.int .i64 c) := (V.out.below b1 V.out.lt).cell 5
  have k22 : u1.cell? ⟨w.heap.size + 1, 6, none⟩ = some (.int .i64 d) := (V.out.below b1 V.out.lt).cell 6
  replace Z := Lib.hid (Z.out.below b1 Z.out.lt)
  replace V := Lib.hid (V.out.below b1 V.out.lt)
  replace BL := Lib.hid (BL.out.trans (b1.mono BL.out.size))
  clear b1
  have q := Lib.hid (q2.out u1)
  go_wp2_with fail
  with_reducible refine q.out.mono ?_
  rintro e u2 ⟨rfl, b2⟩
  clear k12 k13 k14 k15 k16 k17 k18 k19 k20 k21 k22
  clear q
  have k23 : u2.cell? ⟨w.heap.size, 0, none⟩ = some (.string p.nm) := (Z.out.below b2 Z.out.lt).cell 0
  have k24 : u2.cell? ⟨w.heap.size, 1, none⟩ = some (.slice p.a1 p.n1 p.c1) := (Z.out.below b2 Z.out.lt).cell 1
  have k25 : u2.cell? ⟨w.heap.size, 2, none⟩ = some (.slice p.a2 p.n2 p.c2) := (Z.out.below b2 Z.out.lt).cell 2
  have k26 : u2.cell? ⟨w.heap.size, 3, none⟩ = some (.slice p.a3 p.n3 p.c3) := (Z.out.below b2 Z.out.lt).cell 3
  have k27 : u2.cell? ⟨w.heap.size + 1, 0, none⟩ = some (.int .i64 fr) := (V.out.below b2 V.out.lt).cell 0
  have k28 : u2.cell? ⟨w.heap.size + 1, 1, none⟩ = some (.int .i64 ds) := (V.out.below b2 V.out.lt).cell 1
  have k29 : u2.cell? ⟨w.heap.size + 1, 2, none⟩ = some (.int .i64 k) := (V.out.below b2 V.out.lt).cell 2
  have k30 : u2.cell? ⟨w.heap.size + 1, 3, none⟩ = some (.int .i64 x) := (V.out.below b2 V.out.lt).cell 3
  have k31 : u2.cell? ⟨w.heap.size + 1, 4, none⟩ = some (.int .i64 y) := (V.out.below b2 V.out.lt).cell 4
  have k32 : u2.cell? ⟨w.heap.size + 1, 5, none⟩ = some (.int .i64 c) := (V.out.below b2 V.out.lt).cell 5
  have k33 : u2.cell? ⟨w.heap.size + 1, 6, none⟩ = some (.int .i64 d) := (V.out.below b2 V.out.lt).cell 6
  replace Z := Lib.hid (Z.out.below b2 Z.out.lt)
  replace V := Lib.hid (V.out.below b2 V.out.lt)
  replace BL := Lib.hid (BL.out.trans (b2.mono BL.out.size))
  clear b2
  have q := Lib.hid (q3.out u2)
  go_wp2_with fail
  with_reducible refine q.out.mono ?_
  rintro e u3 ⟨rfl, b3⟩
  clear k23 k24 k25 k26 k27 k28 k29 k30 k31 k32 k33
  clear q
  replace Z := Lib.hid (Z.out.below b3 Z.out.lt)
  replace V := Lib.hid (V.out.below b3 V.out.lt)
  replace BL := Lib.hid (BL.out.trans (b3.mono BL.out.size))
  clear b3
  go_wp2
  go_ret
  exact ⟨ret_bool hF.out.symm, BL.out⟩
set_option maxRecDepth 100000 in
set_option maxHeartbeats 1000000 in
theorem badEdge_any (p : PV) (g : Nat) (fr ds k x y c d : Int) (w : World) (h : Holds w g 38 p.cells) : Calls Tryz.prog 105 #[.agg #[.int .i64 fr, .int .i64 ds, .int .i64 k, .int .i64 x, .int .i64 y, .int .i64 c, .int .i64 d], .pointer (some ⟨g, 0, none⟩)] w (Gives (.bool (!edgeB p.n2 p.n1 ⟨fr, ds, k, x, y, c, d⟩)) w) := by
  have q1 := Lib.hid (fun W => rightEdge_any p fr ds k x y c d W)
  generalize edgeB p.n2 p.n1 ⟨fr, ds, k, x, y, c, d⟩ = R at *
  have hg := h.lt
  obtain ⟨W1, hW1⟩ : ∃ W1, W1 = w.alloc (.cells #[.int .i64 fr, .int .i64 ds, .int .i64 k, .int .i64 x, .int .i64 y, .int .i64 c, .int .i64 d] 75) := ⟨_, rfl⟩
  have V : Hid (Holds W1 (w.heap.size) 75 #[.int .i64 fr, .int .i64 ds, .int .i64 k, .int .i64 x, .int .i64 y, .int .i64 c, .int .i64 d]) := Lib.hid (by rw [hW1]; exact Holds.new w _ _)
  have Z : Hid (Holds W1 (g) 38 #[.string p.nm, .slice p.a1 p.n1 p.c1, .slice p.a2 p.n2 p.c2, .slice p.a3 p.n3 p.c3]) := Lib.hid (by rw [hW1]; exact h.alloc _)
  have BL := Lib.hid (show Below w.heap.size w W1 by rw [hW1]; exact box_below _ _ _)
  have hW1' := Lib.hid hW1
  clear hW1
  have g0 := h.cell 0
  have g1 := h.cell 1
  have g2 := h.cell 2
  have g3 := h.cell 3
  clear h
  go_enter Tryz.func105, Tryz.ntmps105
  have k1 := V.out.cell 0
  have k2 := V.out.cell 1
  have k3 := V.out.cell 2
  have k4 := V.out.cell 3
  have k5 := V.out.cell 4
  have k6 := V.out.cell 5
  have k7 := V.out.cell 6
  have q := Lib.hid (q1.out W1)
  go_wp2_with fail
  rw [← hW1'.out]
  with_reducible refine q.out.mono ?_
  rintro e u1 ⟨rfl, b1⟩
  clear k1 k2 k3 k4 k5 k6 k7
  clear hW1'
  clear q
  replace V := Lib.hid (V.out.below b1 V.out.lt)
  replace Z := Lib.hid (Z.out.below b1 Z.out.lt)
  replace BL := Lib.hid (BL.out.trans (b1.mono BL.out.size))
  clear b1
  go_wp2
  go_ret
  exact ⟨rfl, BL.out⟩
end Go.Proofs.YtimgocfkogebmaaGreatDoor
