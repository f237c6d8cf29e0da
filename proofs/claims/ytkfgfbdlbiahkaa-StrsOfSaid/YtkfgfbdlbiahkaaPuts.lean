/- The document's numbers and texts as bytes (ref02: Num, Text). -/
import Derived.Test.YtkfgfbdlbiahkaaLebRefPut
import Derived.Test.YtkfgfbdlbiahkaaFoot
namespace Go.Proofs.Ytkfgfbdlbiahkaa
open Go.RowKit
set_option linter.unusedVariables false

theorem rnum_any (n : Int) (w : World) (h0 : 0 ≤ n) (h1 : n ≤ 9223372036854775807) :
    Calls Try.prog 34 #[.int .i64 n] w (Made 5 .u8 w (leb n.toNat)) := by
  have hput := Lib.hid (refput_any n w h0 (by unfold U64; omega))
  go_enter Try.func34, Try.ntmps34
  go_wp2_with fail
  refine hput.out.mono ?_
  rintro e w1 h
  have h' := Lib.hid h
  obtain ⟨v, rfl, -, -⟩ := h
  go_wp2
  go_ret
  exact h'.out
theorem rtxt_any (s : ByteArray) (w : World) (hs : s.size ≤ 140737488351232) :
    Calls Try.prog 36 #[.string s] w (Made 5 .u8 w (leb s.size ++ codes s)) := by
  obtain ⟨i0, hi, hz0, hz1, hz2⟩ := info_parts infoU8
  have hU : U64 (s.size : Int) := by unfold U64; omega
  have hten := hU.le10
  have hput := Lib.hid (refput_any (s.size : Int) w (by omega) hU)
  have hcv := Lib.hid (fun W : World => run_bytes_sees (P := Try.prog) W 9 25 5 s Try.underlying9 Try.underlying25 Try.underlying5)
  have hlen : s.size = (codes s).length := (codes_length s).symm
  have hlen' := Lib.hid hlen
  have hsz : s.size ≤ 9223372036854775807 := by omega
  have hbound : Hid ((leb s.size).length + (codes s).length ≤ 140737488355328) := Lib.hid (by simp at hten; omega)
  clear hten hlen hU
  go_enter Try.func36, Try.ntmps36
  go_wp2_with fail
  refine hput.out.mono ?_
  simp only [Int.toNat_natCast]
  rintro e w1 ⟨v1, rfl, hown, hb1⟩
  obtain ⟨c, w2, hrun, hc, hse, hb, hz⟩ := hcv.out w1
  have hown2 := own_zero (own_below hown hb)
  have hz' := Lib.hid hz
  clear hz
  go_wp2_with (at_builtin; refine wpList_append_foot _ rfl (.tmp 6) (.tmp 8) 25 rfl 5 i0 (.int .u8 0) 1 Try.underlying25 hi hz0 hz1 hz2 rfl .u8 v1 (leb s.size) hown2 _ _ (codes s) hse s.size c hlen'.out rfl rfl (by have := hbound.out; simp [maxLen]; omega) (by have := hbound.out; omega) ?_; intro v' w' hown3 hgrow hblk)
  go_ret
  have hB := hb1.trans (hb.mono hb1.size)
  refine ⟨v', rfl, own_from hown3 fun k hk => ?_, hB.grown hgrow hB.size fun k hk => (hown.lt k hk).1⟩
  rcases hblk with h | h
  · rw [h] at hk; exact (hown.lt k hk).1
  · rw [h] at hk; injection hk with hk; have := hB.size; omega

/-- One row of bytes that a call has made, behind another one that it has made: append(x, y...). -/
theorem made_append {P : Program} {w w1 w2 : World} {ops : Array Oper} {rest : List Oper} {o : Oper} {a : Act} {Q : Exit → Act → World → Prop}
    (hg : o.guard = none) (s x : Operand) (t : TypeId) (hop : o.op = Op.call { callee := Callee.builtin Builtin.append, args := #[s, x], argTypes := #[t, t] })
    (e : TypeId) (i : TypeInfo) (ht : P.underlying t = some (.slice e)) (hi : P.info? e = some i) (hz : i.zero = some (.int .u8 0)) (hsize : i.size = 1) (hby : i.bytes = 1)
    (v : Value) (l : List Int) (hown : w1.ownsRow w.heap.size e 1 v l.length (nums .u8 l)) (hb1 : Below w.heap.size w w1) (hb : Below w1.heap.size w1 w2)
    (A : Option Addr) (r : List Int) (m c : Nat) (hm : m = r.length) (hse : Sees .u8 w2.heap.size w2 A r)
    (hsv : a.eval s = v) (hx : a.eval x = .slice A m c) (hn : l.length + r.length ≤ 140737488355328)
    (hK : ∀ v' w', w'.ownsRow w.heap.size e 1 v' (l ++ r).length (nums .u8 (l ++ r)) → Below w.heap.size w w' → wpList P ops Q rest (a.put o.dst v') w') : wpList P ops Q (o :: rest) a w2 := by
  refine wpList_append_foot w2 hg s x t hop e i (.int .u8 0) 1 ht hi hz hsize hby rfl .u8 v l (own_zero (own_below hown hb)) _ A r hse m c hm hsv hx (by simp [maxLen]; omega) (by omega) ?_
  intro v' w' hown3 hgrow hblk
  have hB := hb1.trans (hb.mono hb1.size)
  refine hK v' w' (own_from hown3 fun k hk => ?_) (hB.grown hgrow hB.size fun k hk => (hown.lt k hk).1)
  rcases hblk with h | h
  · rw [h] at hk; exact (hown.lt k hk).1
  · rw [h] at hk; injection hk with hk; have := hB.size; omega
end Go.Proofs.Ytkfgfbdlbiahkaa
