/- A value of a text: the program's. -/
import Derived.Test.YtpbminoefmpmpaaDoorValShow
namespace Go.Proofs.YtpbminoefmpmpaaDoor
open Go.RowKit
set_option linter.unusedVariables false

theorem sz_none {l : List UInt8} (hi : l ≠ infT) (h : canon l → ¬ val10 l < 1099511627776) : sizeV l = none := by
  unfold sizeV
  rw [if_neg hi, if_neg (fun e => h e.1 e.2)]
theorem sz_bad {l : List UInt8} (hi : l ≠ infT) {k : Nat} {c : UInt8} (hk : l[k]? = some c) (h : ¬ isDig c) : sizeV l = none :=
  sz_none hi fun hc _ => h (hc.2.1 c (List.mem_of_getElem? hk))
theorem take_snoc {l : List UInt8} {k : Nat} {c : UInt8} (hk : l[k]? = some c) : l.take (k + 1) = l.take k ++ [c] := by
  rw [List.take_add_one, hk]; rfl
theorem sz_big {l : List UInt8} (hi : l ≠ infT) {k : Nat} {c : UInt8} (hk : l[k]? = some c) (h : 1099511627776 ≤ 10 * val10 (l.take k) + (c.toNat - 48)) : sizeV l = none :=
  sz_none hi fun _ hv => by
    have h1 := val10_app_le (l.take (k + 1)) (l.drop (k + 1))
    rw [List.take_append_drop, take_snoc hk, val10_snoc] at h1
    omega
theorem canon_zero {l : List UInt8} (h : canon l) (hv : val10 l = 0) : l = [48] := by
  have := canon_show h
  rw [hv] at this
  rw [← this]; decide +kernel
theorem sz_zero {l : List UInt8} (hi : l ≠ infT) {k : Nat} {c : UInt8} (hk : l[k]? = some c) (hc : canon (l.take k)) (hv : val10 (l.take k) = 0) : sizeV l = none :=
  sz_none hi fun h _ => by
    have h1 := canon_zero hc hv
    have hk1 : k = 1 := by
      have h2 := congrArg List.length h1
      have h3 := (List.getElem?_eq_some_iff.1 hk).1
      simp at h2; omega
    subst hk1
    have hh : l.head? = some 48 := by
      cases l with
      | nil => simp at hk
      | cons x r => simp at h1; simp [h1]
    have h4 := h.2.2 hh
    subst h4
    simp at hk
theorem sz_next {l : List UInt8} {k : Nat} {c : UInt8} (hk : l[k]? = some c) (hd : isDig c) (h : k = 0 ∨ (canon (l.take k) ∧ val10 (l.take k) ≠ 0)) :
    canon (l.take (k + 1)) ∧ val10 (l.take (k + 1)) = 10 * val10 (l.take k) + (c.toNat - 48) := by
  rw [take_snoc hk, val10_snoc]
  refine ⟨?_, rfl⟩
  rcases h with rfl | ⟨hc, hv⟩
  · simp only [List.take_zero, List.nil_append]
    exact ⟨by simp, by simpa using hd, fun e => by simpa using e⟩
  · refine ⟨by simp, fun x hx => ?_, fun e => ?_⟩
    · rcases List.mem_append.1 hx with hx | hx
      · exact hc.2.1 x hx
      · rw [List.mem_singleton] at hx; subst hx; exact hd
    · exfalso
      have h5 : (l.take k).head? = some 48 := by
        generalize hp : l.take k = p at *
        cases p with
        | nil => exact absurd rfl hc.1
        | cons x r => simpa using e
      have h6 := hc.2.2 h5
      apply hv
      rw [h6]; decide +kernel
theorem sz_end {l : List UInt8} (hi : l ≠ infT) (h : l = [] ∨ canon l) (hv : val10 l < 1099511627776) : sizeV l = if l = [] then none else some (val10 l) := by
  rcases h with rfl | h
  · rw [if_pos rfl]; exact sz_none hi fun e => absurd rfl e.1
  · unfold sizeV; rw [if_neg hi, if_pos ⟨h, hv⟩, if_neg h.1]

theorem byte_at (s : ByteArray) (k : Nat) (h : k < s.size) : s.data.toList[k]? = some (s[k]'h) := by
  have h2 : k < s.data.toList.length := by rw [Array.length_toList]; exact h
  rw [List.getElem?_eq_getElem h2]
  simp
  rfl
theorem iter_below (w : World) (s : ByteArray) (k : Nat) : Below w.heap.size w (w.iter s k) := (Below.refl _ w).alloc (Nat.le_refl _) _

def szP (l : List UInt8) (k n : Nat) : Prop := n = val10 (l.take k) ∧ n < 1099511627776 ∧ (k = 0 ∨ canon (l.take k))
set_option maxHeartbeats 1000000 in
theorem size_any (s : ByteArray) (hm : s.size ≤ 1000) (w : World) : Calls Tryd.prog 55 #[.string s] w (Gives (.tuple #[.int .i64 (((sizeV s.data.toList).getD 0 : Nat) : Int), .bool (sizeV s.data.toList).isSome]) w) := by
  have hlen : s.data.toList.length = s.size := by rw [Array.length_toList]; rfl
  have htl : s.toList = s.data.toList := ByteArray.toList_eq ..
  by_cases hinf : s.data.toList = infT
  · have hv : sizeV s.data.toList = some 1099511627776 := by unfold sizeV; rw [if_pos hinf]
    have h1 : (s.toList == [105, 110, 102]) = true := by rw [htl, hinf]; rfl
    rw [hv]
    clear hinf htl hlen hv
    go_enter Tryd.func55, Tryd.ntmps55
    go_wp2
    go_ret2
    exact ⟨rfl, Below.refl _ _⟩
  · have h1 : (s.toList == [105, 110, 102]) = false := by rw [htl, beq_eq_false_iff_ne]; exact hinf
    have hb := byte_at s
    have he : ∀ n, (s.data.toList = [] ∨ canon s.data.toList) → n = val10 s.data.toList → n < 1099511627776 → Hid ((((sizeV s.data.toList).getD 0 : Nat) : Int) = (n : Int) ∧ (sizeV s.data.toList).isSome = !s.toList.isEmpty) := fun n hc hn hv => Lib.hid (by
      rw [sz_end hinf hc (by omega), htl]
      by_cases hnil : s.data.toList = []
      · rw [if_pos hnil]
        subst hn
        exact ⟨by rw [hnil]; rfl, by rw [hnil]; rfl⟩
      · rw [if_neg hnil, hn]
        exact ⟨rfl, by
          cases h : s.data.toList with
          | nil => exact absurd h hnil
          | cons x r => rfl⟩)
    generalize hL : s.data.toList = l at *
    have hinf' := Lib.hid hinf
    have hbad := fun (k : Nat) (c : UInt8) (h1 : l[k]? = some c) (h2 : ¬ isDig c) => sz_bad hinf h1 h2
    have hbig := fun (k : Nat) (c : UInt8) (h1 : l[k]? = some c) (h2 : 1099511627776 ≤ 10 * val10 (l.take k) + (c.toNat - 48)) => sz_big hinf h1 h2
    have hzero := fun (k : Nat) (c : UInt8) (h1 : l[k]? = some c) (h2 : canon (l.take k)) (h3 : val10 (l.take k) = 0) => sz_zero hinf h1 h2 h3
    have hnext := fun (k : Nat) (c : UInt8) (h1 : l[k]? = some c) (h2 : isDig c) (h3 : k = 0 ∨ (canon (l.take k) ∧ val10 (l.take k) ≠ 0)) => sz_next h1 h2 h3
    have hbad' := Lib.hid hbad
    have hbig' := Lib.hid hbig
    have hzero' := Lib.hid hzero
    have hnext' := Lib.hid hnext
    have hb' := Lib.hid hb
    have he' := Lib.hid he
    have hlen' := Lib.hid hlen
    clear hbad hbig hzero hnext hb he hinf htl hL hlen
    generalize sizeV l = Z at *
    go_enter Tryd.func55, Tryd.ntmps55
    go_wp2
    go_loopw [4, 5, 6] (fun a _ _ wr => ∃ (k n : Nat), k ≤ s.size ∧ Hid (szP l k n) ∧ n < 1099511627776 ∧ wr = w.iter s k ∧ a = .int .i64 n) (fun _ _ _ wr => s.size - wr.iterPos w.heap.size)
    case atStart => exact ⟨0, 0, by omega, Lib.hid ⟨rfl, by omega, .inl rfl⟩, by omega, rfl, rfl⟩
    case round =>
      obtain ⟨k, n, hk, hP, hn, rfl, rfl⟩ := hrel
      by_cases hp : k < s.size
      · have hc := Lib.hid (hb'.out k hp)
        by_cases ha : (s[k]'hp).toNat < 128
        · have hnx : ∀ ty, (Instr.next (.pointer (some ⟨w.heap.size, 0, none⟩)) true ty).run Tryd.prog (w.iter s k) = _ := fun ty => run_next_ascii w s k ty hp ha
          generalize s[k]'hp = c at *
          obtain ⟨x, hx⟩ : ∃ x, x = c.toNat := ⟨_, rfl⟩
          rw [← hx] at hnx ha
          have hx' := Lib.hid hx
          clear hx
          have hnat : x ≤ 255 := by rw [hx'.out]; have := c.toNat_lt; omega
          by_cases hd : isDig c
          · have hxd : 48 ≤ x ∧ x ≤ 57 := by rw [hx'.out]; exact hd
            have hdig := Lib.hid hd
            clear hd
            have hcases : k = 0 ∨ (0 < k ∧ n = 0) ∨ (0 < k ∧ ¬ n = 0) := by omega
            rcases hcases with hk0 | ⟨hk0, hn0⟩ | ⟨hk0, hn0⟩
            · have d1 : decide ((0 : Int) < (k : Int)) = false := by simp; omega
              have hN := Lib.hid (hnext'.out k c hc.out hdig.out (.inl hk0))
              have hP2 := Lib.hid (show szP l (k + 1) (10 * n + (x - 48)) ∧ 10 * n + (x - 48) < 1099511627776 from by
                have h0 : n = 0 := by have := hP.out.1; rw [this, hk0]; rfl
                have h2 : 10 * n + (x - 48) < 1099511627776 := by omega
                exact ⟨⟨by rw [hN.out.2, ← hP.out.1, hx'.out], h2, .inr hN.out.1⟩, h2⟩)
              have h10 : (10 : Int) * (n : Int) + ((x : Int) - 48) < 1099511627776 := by have := hP2.out.2; omega
              have d2 : decide ((1099511627776 : Int) ≤ 10 * (n : Int) + ((x : Int) - 48)) = false := by simp; omega
              have hk1 : ¬ 0 < k := by omega
              clear hk0
              go_wp2
              go_roundw
              case rel => exact ⟨k + 1, 10 * n + (x - 48), by omega, Lib.hid hP2.out.1, hP2.out.2, rfl, by go_num⟩
              case measure => simp; omega
            · subst hn0
              have d1 : decide ((0 : Int) < (k : Int)) = true := by simp; omega
              have hZ := Lib.hid (hzero'.out k c hc.out (by rcases hP.out.2.2 with h | h; exact absurd h (by omega); exact h) hP.out.1.symm)
              go_wp2
              go_ret2
              exact ⟨by rw [hZ.out]; rfl, iter_below _ _ _⟩
            · have d1 : decide ((0 : Int) < (k : Int)) = true := by simp; omega
              have d3 : ((n : Int) == 0) = false := by simp; omega
              by_cases hbg : 1099511627776 ≤ 10 * n + (x - 48)
              · have hZ := Lib.hid (hbig'.out k c hc.out (by rw [← hP.out.1, ← hx'.out]; exact hbg))
                have d2 : decide ((1099511627776 : Int) ≤ 10 * (n : Int) + ((x : Int) - 48)) = true := by simp; omega
                go_wp2
                go_ret2
                exact ⟨by rw [hZ.out]; rfl, iter_below _ _ _⟩
              · have hN := Lib.hid (hnext'.out k c hc.out hdig.out (.inr ⟨by rcases hP.out.2.2 with h | h; exact absurd h (by omega); exact h, by rw [← hP.out.1]; exact hn0⟩))
                have hP2 := Lib.hid (show szP l (k + 1) (10 * n + (x - 48)) from ⟨by rw [hN.out.2, ← hP.out.1, hx'.out], by omega, .inr hN.out.1⟩)
                have d2 : decide ((1099511627776 : Int) ≤ 10 * (n : Int) + ((x : Int) - 48)) = false := by simp; omega
                go_wp2
                go_roundw
                case rel => exact ⟨k + 1, 10 * n + (x - 48), by omega, hP2, by omega, rfl, by go_num⟩
                case measure => simp; omega
          · have hZ := Lib.hid (hbad'.out k c hc.out hd)
            have hxd : x < 48 ∨ 57 < x := by rw [hx'.out]; unfold isDig at hd; omega
            clear hd
            rcases hxd with hxd | hxd
            · have d1 : decide ((x : Int) < 48) = true := by simp; omega
              go_wp2
              go_ret2
              exact ⟨by rw [hZ.out]; rfl, iter_below _ _ _⟩
            · have d1 : decide ((x : Int) < 48) = false := by simp; omega
              have d2 : decide ((57 : Int) < (x : Int)) = true := by simp; omega
              go_wp2
              go_ret2
              exact ⟨by rw [hZ.out]; rfl, iter_below _ _ _⟩
        · have hnx : ∀ ty, (Instr.next (.pointer (some ⟨w.heap.size, 0, none⟩)) true ty).run Tryd.prog (w.iter s k) = _ := fun ty => run_next_any w s k ty hp
          have hr1 := (decode_high s k hp (by omega)).1
          have hr2 := decode_le s k
          have hZ := Lib.hid (hbad'.out k _ hc.out (by unfold isDig; omega))
          generalize (Utf8.decode s k).1 = r at *
          generalize (Utf8.decode s k).2 = q at *
          clear hc
          have d1 : decide ((r : Int) < 48) = false := by simp; omega
          have d2 : decide ((57 : Int) < (r : Int)) = true := by simp; omega
          go_wp2
          go_ret2
          exact ⟨by rw [hZ.out]; rfl, iter_below _ _ _⟩
      · have hnx : ∀ ty, (Instr.next (.pointer (some ⟨w.heap.size, 0, none⟩)) true ty).run Tryd.prog (w.iter s k) = _ := fun ty => run_next_end w s k ty hp
        have htk := Lib.hid (show l.take k = l from List.take_of_length_le (by rw [hlen'.out]; omega))
        have hE := he'.out n (by
          rcases hP.out.2.2 with h | h
          · left; exact List.eq_nil_of_length_eq_zero (by rw [hlen'.out]; omega)
          · right; rw [← htk.out]; exact h) (by have := hP.out.1; rw [htk.out] at this; exact this) hn
        go_wp2
        go_ret2
        exact ⟨by rw [hE.out.1, hE.out.2]; rfl, iter_below _ _ _⟩

/-- What Parse tells: the number, and what is wrong. -/
def parseN (s : List UInt8) : Int := (parseV s).getD 0
def parseE (s : List UInt8) : Int := if (parseV s).isSome then 0 else 60
theorem parse_below {s : List UInt8} {o : Option Nat} (h : Lib.hasPrefix s [45] = true) (ho : sizeV (s.drop 1) = o) (n : Nat) (hn : (o.getD 0 : Nat) = n) :
    (o.isSome = true → 0 < n → parseN s = -(n : Int) ∧ parseE s = 0) ∧ (o.isSome = false → parseN s = 0 ∧ parseE s = 60) ∧ (¬ 0 < n → parseN s = 0 ∧ parseE s = 60) := by
  unfold parseN parseE parseV
  rw [if_pos h, ho]
  cases o with
  | none => simp
  | some m =>
    simp only [Option.getD_some] at hn
    subst hn
    by_cases hm : 0 < m
    · simp [hm]
    · simp [hm]
theorem parse_plain {s : List UInt8} {o : Option Nat} (h : Lib.hasPrefix s [45] = false) (ho : sizeV s = o) (n : Nat) (hn : (o.getD 0 : Nat) = n) :
    (o.isSome = true → parseN s = (n : Int) ∧ parseE s = 0) ∧ (o.isSome = false → parseN s = 0 ∧ parseE s = 60) := by
  unfold parseN parseE parseV
  rw [if_neg (by rw [h]; decide), ho]
  cases o with
  | none => simp
  | some m =>
    simp only [Option.getD_some] at hn
    subst hn
    simp
theorem sizeV_le {l : List UInt8} : (sizeV l).getD 0 ≤ 1099511627776 := by
  unfold sizeV; split
  · simp
  · split
    · next h => simp; omega
    · simp
set_option maxHeartbeats 1000000 in
theorem parse_any (s : ByteArray) (hm : s.size ≤ 1000) (w : World) : Calls Tryd.prog 50 #[.string s] w (Gives (.tuple #[.int .i64 (parseN s.data.toList), .int .i64 (parseE s.data.toList)]) w) := by
  have hlen : s.data.toList.length = s.size := by rw [Array.length_toList]; rfl
  have hcut := Lib.hid (fun w => Tryd.strings_CutPrefix s ⟨#[45]⟩ w)
  have e45 : (⟨#[45]⟩ : ByteArray).data.toList = [45] := rfl
  rw [e45] at hcut
  by_cases hp : Lib.hasPrefix s.data.toList [45] = true
  · have ht : Lib.trimPrefix s.data.toList [45] = s.data.toList.drop 1 := by unfold Lib.trimPrefix; rw [hp]; rfl
    rw [hp, ht] at hcut
    have hs := Lib.hid (fun w => size_any ⟨(s.data.toList.drop 1).toArray⟩ (by show (s.data.toList.drop 1).toArray.size ≤ 1000; simp; omega) w)
    rw [show (⟨(s.data.toList.drop 1).toArray⟩ : ByteArray).data.toList = s.data.toList.drop 1 from rfl] at hs
    obtain ⟨o, ho⟩ : ∃ o, sizeV (s.data.toList.drop 1) = o := ⟨_, rfl⟩
    obtain ⟨n, hn⟩ : ∃ n, (o.getD 0 : Nat) = n := ⟨_, rfl⟩
    have hle : n ≤ 1099511627776 := by rw [← hn, ← ho]; exact sizeV_le
    have hx := Lib.hid (parse_below hp ho n hn)
    rw [ho, hn] at hs
    generalize (⟨(s.data.toList.drop 1).toArray⟩ : ByteArray) = R at *
    generalize parseN s.data.toList = N at *
    generalize parseE s.data.toList = E at *
    clear ho hp ht hn hlen e45
    obtain ⟨b, hbo⟩ : ∃ b, o.isSome = b := ⟨_, rfl⟩
    rw [hbo] at hs hx
    clear hbo
    cases b
    · have hz := Lib.hid (hx.out.2.1 rfl)
      go_enter Tryd.func50, Tryd.ntmps50
      go_wp2_with fail
      refine (hcut.out _).mono ?_
      rintro e w' ⟨rfl, rfl⟩
      go_wp2_with fail
      refine (hs.out _).mono ?_
      rintro e w1 ⟨rfl, hb⟩
      go_wp2
      go_ret2
      exact ⟨by rw [hz.out.1, hz.out.2]; rfl, hb⟩
    · by_cases hpos : 0 < n
      · have hz := Lib.hid (hx.out.1 rfl hpos)
        have d1 : decide ((0 : Int) < (n : Int)) = true := by simp; omega
        go_enter Tryd.func50, Tryd.ntmps50
        go_wp2_with fail
        refine (hcut.out _).mono ?_
        rintro e w' ⟨rfl, rfl⟩
        go_wp2_with fail
        refine (hs.out _).mono ?_
        rintro e w1 ⟨rfl, hb⟩
        go_wp2
        go_ret2
        exact ⟨by rw [hz.out.1, hz.out.2]; rfl, hb⟩
      · have hz := Lib.hid (hx.out.2.2 hpos)
        have d1 : decide ((0 : Int) < (n : Int)) = false := by simp; omega
        go_enter Tryd.func50, Tryd.ntmps50
        go_wp2_with fail
        refine (hcut.out _).mono ?_
        rintro e w' ⟨rfl, rfl⟩
        go_wp2_with fail
        refine (hs.out _).mono ?_
        rintro e w1 ⟨rfl, hb⟩
        go_wp2
        go_ret2
        exact ⟨by rw [hz.out.1, hz.out.2]; rfl, hb⟩
  · have hp : Lib.hasPrefix s.data.toList [45] = false := by simpa using hp
    have ht : Lib.trimPrefix s.data.toList [45] = s.data.toList := by unfold Lib.trimPrefix; rw [hp]; rfl
    rw [hp, ht] at hcut
    have hs := Lib.hid (fun w => size_any s hm w)
    rw [show (⟨s.data.toList.toArray⟩ : ByteArray) = s from by simp] at hcut
    obtain ⟨o, ho⟩ : ∃ o, sizeV s.data.toList = o := ⟨_, rfl⟩
    obtain ⟨n, hn⟩ : ∃ n, (o.getD 0 : Nat) = n := ⟨_, rfl⟩
    have hx := Lib.hid (parse_plain hp ho n hn)
    rw [ho, hn] at hs
    generalize parseN s.data.toList = N at *
    generalize parseE s.data.toList = E at *
    clear ho hp ht hn hlen e45
    obtain ⟨b, hbo⟩ : ∃ b, o.isSome = b := ⟨_, rfl⟩
    rw [hbo] at hs hx
    clear hbo
    cases b
    · have hz := Lib.hid (hx.out.2 rfl)
      go_enter Tryd.func50, Tryd.ntmps50
      go_wp2_with fail
      refine (hcut.out _).mono ?_
      rintro e w' ⟨rfl, rfl⟩
      go_wp2_with fail
      refine (hs.out _).mono ?_
      rintro e w1 ⟨rfl, hb⟩
      go_wp2
      go_ret2
      exact ⟨by rw [hz.out.1, hz.out.2]; rfl, hb⟩
    · have hz := Lib.hid (hx.out.1 rfl)
      go_enter Tryd.func50, Tryd.ntmps50
      go_wp2_with fail
      refine (hcut.out _).mono ?_
      rintro e w' ⟨rfl, rfl⟩
      go_wp2_with fail
      refine (hs.out _).mono ?_
      rintro e w1 ⟨rfl, hb⟩
      go_wp2
      go_ret2
      exact ⟨by rw [hz.out.1, hz.out.2]; rfl, hb⟩
end Go.Proofs.YtpbminoefmpmpaaDoor
