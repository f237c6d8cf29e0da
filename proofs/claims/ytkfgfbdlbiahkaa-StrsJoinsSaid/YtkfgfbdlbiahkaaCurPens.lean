/- cur: the pen's calls. -/
import Derived.Test.YtkfgfbdlbiahkaaCurPen
namespace Go.Proofs.Ytkfgfbdlbiahkaa
open Go.RowKit
set_option linter.unusedVariables false

def NewPen (w : World) (e : Ending) (w' : World) : Prop := ∃ g F, e = .returned (.pointer (some ⟨g, 0, none⟩)) ∧ Pn w' g F [] ∧ Below w.heap.size w w' ∧ ∀ x ∈ F, w.heap.size ≤ x
theorem new_any (w : World) : Calls Try.prog 19 #[] w (NewPen w) := by
  go_enter Try.func19, Try.ntmps19
  go_wp2
  go_ret
  exact ⟨w.heap.size, [w.heap.size], rfl, ⟨.slice none 0 0, Holds.new _ _ _, ⟨rfl, .inl ⟨rfl, rfl⟩⟩, by simp, by simp [Value.ownBlock], by simp⟩, (Below.refl _ _).alloc (Nat.le_refl _) _, by simp⟩
theorem Writes.after {g : Nat} {F : List Nat} {l : List Int} {w w1 w' : World} {e : Ending} (hb : Below w.heap.size w w1) (h : Writes g F l w1 e w') : Writes g F l w e w' := by
  obtain ⟨h0, F', h1, h2, h3⟩ := h
  refine ⟨h0, F', h1, (BelowE.of hb).trans (h2.mono hb.size), fun x hx => ?_⟩
  rcases h3 x hx with h | h
  · exact .inl h
  · right; have := hb.size; omega
theorem Pn.ne {w : World} {g : Nat} {F : List Nat} {l : List Int} (h : Pn w g F l) : g < w.heap.size := by
  obtain ⟨v, h1, _⟩ := h; exact h1.lt
/-- The bytes of four numbers. -/
def wordB (n : Int) : List Int := [n % 256, n / 256 % 256, n / 65536 % 256, n / 16777216]

theorem pu_any (g : Nat) (F : List Nat) (l : List Int) (n : Int) (w : World) (h : Pn w g F l) (h0 : 0 ≤ n) (hU : U64 n) (hl : l.length ≤ 100000000000000) :
    Calls Try.prog 20 #[.pointer (some ⟨g, 0, none⟩), .int .u64 n] w (Writes g F (l ++ leb n.toNat) w) := by
  have hten := hU.le10
  have hput := Lib.hid (fun (A : Option Addr) (c : Nat) (w' : World) (hb : Below w.heap.size w w') (hs : Sees .u8 w'.heap.size w' A (leb n.toNat)) => pput_any g F l A (leb n.toNat) _ c rfl w'.heap.size w' (h.below hb) hs (by omega))
  clear h hl
  go_enter Try.func20, Try.ntmps20
  go_wp2_with fail
  refine (put_any n _ h0 hU).mono ?_
  intro e w1 h1
  obtain ⟨a1, c1, rfl, hs1, hb1⟩ := h1.open (leb n.toNat).length rfl
  clear h1
  go_wp2_with fail
  refine (hput.out a1 c1 w1 hb1 hs1).mono ?_
  rintro e w2 hw
  have hw' := Lib.hid hw
  obtain ⟨rfl, -⟩ := hw
  go_wp2
  go_end0
  exact Writes.after hb1 hw'.out
theorem pu_nil (n : Int) (w : World) (h0 : 0 ≤ n) (hU : U64 n) :
    Calls Try.prog 20 #[.pointer none, .int .u64 n] w fun e w' => e = .returned (.tuple #[]) ∧ Below w.heap.size w w' := by
  skip
  go_enter Try.func20, Try.ntmps20
  go_wp2_with fail
  refine (put_any n _ h0 hU).mono ?_
  intro e w1 h1
  obtain ⟨a1, c1, rfl, hs1, hb1⟩ := h1.open (leb n.toNat).length rfl
  clear h1
  go_wp2_with fail
  refine (pput_nil _ _ _ _).mono ?_
  rintro e w2 ⟨rfl, rfl⟩
  go_wp2
  go_end0
  exact ⟨rfl, hb1⟩

theorem sees_four (W : World) (t : TypeId) (l : List Int) (cs : Array Value) (h : cs = (nums .u8 l).toArray) : Sees .u8 (W.alloc (.cells cs t)).heap.size (W.alloc (.cells cs t)) (some ⟨W.heap.size, 0, none⟩) l := by
  have := sees_new .u8 W t l cs h
  simpa using this

theorem ptext_any (g : Nat) (F : List Nat) (l : List Int) (s : ByteArray) (w : World) (h : Pn w g F l) (hs : s.size ≤ 140737488351232) (hl : l.length ≤ 100000000000000) (hls : l.length + s.size ≤ 140737488355000) :
    Calls Try.prog 22 #[.pointer (some ⟨g, 0, none⟩), .string s] w (Writes g F (l ++ (leb s.size ++ codes s)) w) := by
  have hU : U64 (s.size : Int) := by unfold U64; omega
  have hten := hU.le10
  have hput := Lib.hid (pu_any g F l (s.size : Int) w h (by omega) hU hl)
  have hlen : (codes s).length = s.size := codes_length s
  have htext := Lib.hid (fun (F' : List Nat) (A : Option Addr) (c : Nat) (w1 w2 : World) (hp : Pn w1 g F' (l ++ leb s.size)) (hb : Below w1.heap.size w1 w2) (hse : Sees .u8 w2.heap.size w2 A (codes s)) => pput_any g F' (l ++ leb s.size) A (codes s) s.size c hlen.symm w2.heap.size w2 (hp.below hb) hse (by simp at hten ⊢; omega))
  have hcv := Lib.hid (fun W : World => run_bytes_sees (P := Try.prog) W 9 25 5 s Try.underlying9 Try.underlying25 Try.underlying5)
  have hsz : s.size ≤ 9223372036854775807 := by omega
  clear h hl hten hlen hls hs hU
  go_enter Try.func22, Try.ntmps22
  go_wp2_with fail
  refine hput.out.mono ?_
  rintro e w1 ⟨rfl, F1, hp1, ht1⟩
  simp only [Int.toNat_natCast] at hp1
  obtain ⟨c, w2, hrun, hc, hse, hb, hz⟩ := hcv.out w1
  have hz' := Lib.hid hz
  clear hz
  go_wp2_with fail
  refine (htext.out F1 _ c w1 w2 hp1 hb hse).mono ?_
  rintro e w3 ⟨rfl, F2, hp2, ht2⟩
  go_wp2
  go_end0
  refine ⟨rfl, F2, by rw [← List.append_assoc]; exact hp2, ht1.trans ⟨(BelowE.of hb).trans (ht2.1.mono hb.size), fun x hx => ?_⟩⟩
  rcases ht2.2 x hx with h | h
  · exact .inl h
  · right; have := hb.size; omega
theorem ptext_nil (s : ByteArray) (w : World) (hs : s.size ≤ 9223372036854775807) :
    Calls Try.prog 22 #[.pointer none, .string s] w fun e w' => e = .returned (.tuple #[]) ∧ Below w.heap.size w w' := by
  have hU : U64 (s.size : Int) := by unfold U64; omega
  have hput := Lib.hid (pu_nil (s.size : Int) w (by omega) hU)
  have hcv := Lib.hid (fun W : World => run_bytes_sees (P := Try.prog) W 9 25 5 s Try.underlying9 Try.underlying25 Try.underlying5)
  clear hU
  go_enter Try.func22, Try.ntmps22
  go_wp2_with fail
  refine hput.out.mono ?_
  rintro e w1 ⟨rfl, hb1⟩
  obtain ⟨c, w2, hrun, hc, hse, hb, hz⟩ := hcv.out w1
  have hz' := Lib.hid hz
  clear hz
  go_wp2_with fail
  refine (pput_nil _ _ _ _).mono ?_
  rintro e w3 ⟨rfl, rfl⟩
  go_wp2
  go_end0
  exact ⟨rfl, hb1.trans (hb.mono hb1.size)⟩
theorem pbytes_any (g : Nat) (F : List Nat) (l : List Int) (w : World) (h : Pn w g F l) (hl : l.length ≤ 140737488355328) :
    Calls Try.prog 23 #[.pointer (some ⟨g, 0, none⟩)] w (Made 5 .u8 w l) := by
  obtain ⟨v, h1, h2, _⟩ := h
  have c0 := h1.cell 0
  simp at c0
  obtain ⟨a, c, rfl, _, hs⟩ := sees_own h2
  have hcl := Lib.hid (clone_any a l l.length c rfl w.heap.size w hl hs)
  clear h1 h2 hs hl
  go_enter Try.func23, Try.ntmps23
  go_wp2_with fail
  refine hcl.out.mono ?_
  rintro e w1 hm
  have hm' := Lib.hid hm
  obtain ⟨v, rfl, -⟩ := hm
  go_wp2
  go_ret
  exact hm'.out
theorem pbytes_nil (w : World) :
    Calls Try.prog 23 #[.pointer none] w fun e w' => e = .returned (.slice none 0 0) ∧ w = w' := by
  go_enter Try.func23, Try.ntmps23
  go_wp2
  go_ret
  exact ⟨rfl, rfl⟩

end Go.Proofs.Ytkfgfbdlbiahkaa
