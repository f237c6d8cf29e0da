/- The document's Turn: bytes with some bits turned. -/
import Derived.Test.YtnjdgnlgdokddaaCrcBurst
namespace Go.Proofs.Ytnjdgnlgdokddaa
open Go.RowKit
set_option linter.unusedVariables false
set_option linter.unusedSimpArgs false

theorem infoU8t : (Try.prog.info? 5).map (fun i => (i.zero, i.size, i.bytes)) = some (some (.int .u8 0), 1, 1) := by kernel_rfl
theorem u8_xor (a b : Nat) (ha : a < 256) (hb : b < 256) : bits .xor .u8 (a : Int) (b : Int) = ((a ^^^ b : Nat) : Int) := by
  have hx : a ^^^ b < 2 ^ 8 := Nat.xor_lt_two_pow (by omega) (by omega)
  have h1 : (BitVec.ofInt 8 (a : Int)).toNat = a := by
    rw [BitVec.ofInt_natCast, BitVec.toNat_ofNat]; exact Nat.mod_eq_of_lt (by omega)
  have h2 : (BitVec.ofInt 8 (b : Int)).toNat = b := by
    rw [BitVec.ofInt_natCast, BitVec.toNat_ofNat]; exact Nat.mod_eq_of_lt (by omega)
  show IntKind.u8.wrap ((BitVec.ofInt 8 (a : Int) ^^^ BitVec.ofInt 8 (b : Int)).toNat : Int) = _
  rw [BitVec.toNat_xor, h1, h2]
  simp [IntKind.wrap, IntKind.bits, IntKind.signed]; omega

theorem own_some {k : IntKind} {w : World} {base : Nat} {e : TypeId} {v : Value} {n : Nat} {l : List Int} (h : w.ownsRow base e 1 v n (nums k l)) (hn : 0 < n) : ∃ g cap, v = .slice (some ⟨g, 0, none⟩) n cap ∧ base ≤ g := by
  rcases h.2 with ⟨_, h0⟩ | ⟨g, cap, cur, h1, hg, _⟩
  · omega
  · exact ⟨g, cap, h1, hg⟩

set_option maxRecDepth 100000 in
set_option maxHeartbeats 2000000 in
theorem turn_any (a : Option Addr) (l : List Int) (n cap : Nat) (hn : n = l.length) (B : Nat) (w : World) (hl : l.length ≤ 100000) (hb : Bs l) (hc : Sees .u8 B w a l) (hB : B ≤ w.heap.size) (s t : Nat) (hp : s + 32 ≤ 8 * l.length) (ht : t < 4294967296) :
    Calls Try.prog 18 #[.slice a n cap, .int .i64 s, .int .u32 t] w (Made 5 .u8 w (turned l s t 32)) := by
  subst hn
  obtain ⟨i0, hi, hz0, hz1, hz2⟩ := info_parts infoU8t
  go_enter Try.func18, Try.ntmps18
  go_wp2_with (at_builtin; refine wpList_append_sees _ rfl (.tmp 12) (.tmp 13) 25 rfl w 5 i0 (.int .u8 0) 1 Try.underlying25 hi hz0 hz1 hz2 rfl .u8 _ [] (by exact own_empty 5 .u8 (Below.refl _ w)) (by exact (Below.refl _ w).alloc (Nat.le_refl _) _) w.heap.size a l (by exact (hc.mono hB).below ((Below.refl _ w).alloc (Nat.le_refl _) _)) l.length cap rfl rfl rfl (by simp; omega) (by omega) ?_; intro v2 w2 hown2 hw2; simp only [List.nil_append] at hown2)
  obtain ⟨g, cap2, rfl, hg⟩ := own_some hown2 (by omega)
  clear hc
  go_loopw [2, 8, 9, 10, 11] (fun x i _ _ _ wr => ∃ (k q : Nat), k ≤ 32 ∧ Hid (q = t / 2 ^ k) ∧ q < 4294967296 ∧ wr.ownsRow w.heap.size 5 1 (.slice (some ⟨g, 0, none⟩) l.length cap2) l.length (nums .u8 (turned l s t k)) ∧ Below w.heap.size w wr ∧ x = .int .u32 q ∧ i = .int .i64 k) (fun _ i _ _ _ _ => 32 - (intOf i).toNat)
  case atStart => exact ⟨0, t, by omega, Lib.hid (by simp), ht, hown2, hw2, rfl, rfl⟩
  case round =>
    obtain ⟨k, q, hk, hq, hqu, hown, hbel, rfl, rfl⟩ := hrel
    by_cases hlt : k < 32
    · have t1 : ((q : Int)).tdiv 2 = (q : Int) / 2 := Int.tdiv_eq_ediv_of_nonneg (by omega)
      have t2 : ((q : Int)).tmod 2 = (q : Int) % 2 := Int.tmod_eq_emod_of_nonneg (by omega)
      have hq2 : Hid (q / 2 = t / 2 ^ (k + 1)) := Lib.hid (by rw [hq.out, Nat.div_div_eq_div_mul, Nat.pow_succ])
      by_cases hodd : q % 2 = 1
      · obtain ⟨p, hpe⟩ : ∃ p, p = s + k := ⟨_, rfl⟩
        obtain ⟨i, hie⟩ : ∃ i, i = p / 8 := ⟨_, rfl⟩
        obtain ⟨j, hje⟩ : ∃ j, j = p % 8 := ⟨_, rfl⟩
        have hto : Hid (turned l s t (k + 1) = (turned l s t k).set i ((((turned l s t k).getD i 0).toNat ^^^ 2 ^ j : Nat) : Int)) := Lib.hid (by
          conv => lhs; unfold turned
          rw [if_pos (by rw [← hq.out]; exact hodd), flip, ← hpe, ← hie, ← hje])
        have hpl : p < 8 * l.length := by omega
        have hil : i < l.length := by omega
        have hj8 : j < 8 := by omega
        have hsk : (s : Int) + (k : Int) = (p : Int) := by omega
        have d1 : ((p : Int)).tdiv 8 = (i : Int) := by rw [Int.tdiv_eq_ediv_of_nonneg (by omega)]; omega
        have d2 : ((p : Int)).tmod 8 = (j : Int) := by rw [Int.tmod_eq_emod_of_nonneg (by omega)]; omega
        have hodd2 : ((q : Int) % 2 == 1) = true := by simp; omega
        have hlen := turned_length l s t k
        have hbs := turned_bs hb s t k
        have hcell := hown.cellAt i (by omega)
        have hfz := hown.frozenAt i
        have hy := hbs.at (i := i) (by omega)
        have hu : (nums .u8 (turned l s t k))[i]? = some (.int .u8 ((turned l s t k).getD i 0)) := by simp [nums, List.getD, hlen, hil]
        rw [hu] at hcell
        obtain ⟨y, hye⟩ := Int.eq_ofNat_of_zero_le hy.1
        have hset : (nums .u8 (turned l s t k)).set i (.int .u8 ((y ^^^ 2 ^ j : Nat) : Int)) = nums .u8 (turned l s t (k + 1)) := by
          rw [hto.out, hye]; simp [nums, List.map_set]
        have hst := (hown.stored i (.int .u8 ((y ^^^ 2 ^ j : Nat) : Int))).1
        rw [hset] at hst
        have hx := u8_xor y (2 ^ j) (by omega) (pow8_lt hj8)
        have hst' := Lib.hid hst
        have hb' := Lib.hid (hbel.setCell (p := ⟨g, i, none⟩) hg (.int .u8 ((y ^^^ 2 ^ j : Nat) : Int)))
        rw [hye] at hcell
        obtain ⟨V, hV⟩ : ∃ V, V = y ^^^ 2 ^ j := ⟨_, rfl⟩
        rw [← hV] at hx hst' hb'
        obtain ⟨D, hD⟩ : ∃ D, D = 2 ^ j := ⟨_, rfl⟩
        have hDj := Lib.hid hD
        rw [← hD] at hx
        have hj8' : (j : Int) < 8 := by omega
        clear hst hset hto hu hye hpe hie hje hV hD hown hlen hbs hy
        go_wp2
        go_loop [10, 11] (fun o jj => ∃ (m d : Nat), m ≤ j ∧ Hid (d = 2 ^ m) ∧ d ≤ 128 ∧ o = .int .u8 d ∧ jj = .int .i64 m) (fun _ jj => j - (intOf jj).toNat)
        case atStart => exact ⟨0, 1, by omega, Lib.hid rfl, by omega, rfl, rfl⟩
        case round =>
          obtain ⟨m, d, hm, hd, hdl, rfl, rfl⟩ := hrel
          by_cases hmj : m < j
          · have hd2 : d ≤ 64 := by
              rw [hd.out]; exact Nat.pow_le_pow_right (by decide) (show m ≤ 6 by omega)
            go_wp2
            go_round
            case rel => exact ⟨m + 1, 2 * d, by omega, Lib.hid (by rw [hd.out, Nat.pow_succ]; omega), by omega, by go_num, by go_num⟩
            case measure => simp [intOf]; omega
          · have hdD : (d : Int) = (D : Int) := by rw [hd.out, hDj.out, show m = j by omega]
            go_wp2
            go_roundw
            case rel => exact ⟨k + 1, q / 2, by omega, hq2, by omega, hst'.out, hb'.out, by go_num, by go_num⟩
            case measure => simp [intOf]; omega
      · have hodd2 : ((q : Int) % 2 == 1) = false := by simp; omega
        have hto : Hid (turned l s t (k + 1) = turned l s t k) := Lib.hid (by
          conv => lhs; unfold turned
          rw [if_neg (by rw [← hq.out]; exact hodd)])
        rw [← hto.out] at hown
        go_wp2
        go_roundw
        case rel => exact ⟨k + 1, q / 2, by omega, hq2, by omega, hown, hbel, by go_num, by go_num⟩
        case measure => simp [intOf]; omega
    · rw [show k = 32 by omega] at hown
      go_wp2
      go_ret
      exact ⟨_, rfl, by rw [turned_length]; exact hown, hbel⟩
end Go.Proofs.Ytnjdgnlgdokddaa
