/- slices.Clone of bytes. -/
import Derived.Test.YtjhakmpinloioaaRows
import Derived.Test.YtjhakmpinloioaaFoot
import Derived.WalkSpells
import Derived.Lib.BufferMore
namespace Go.Proofs.Ytjhakmpinloioaa
open Go.RowKit
set_option linter.unusedVariables false

theorem infoU8' : (Try.prog.info? 5).map (fun i => (i.zero, i.size, i.bytes)) = some (some (.int .u8 0), 1, 1) := by kernel_rfl
theorem clone_any (A : Option Addr) (l : List Int) (n c : Nat) (hn : n = l.length) (B : Nat) (w : World) (hl : l.length ≤ 140737488355328) (hs : Sees .u8 B w A l) :
    Calls Try.prog 32 #[.slice A n c] w (Made 5 .u8 w l) := by
  obtain ⟨i0, hi, hz0, hz1, hz2⟩ := info_parts infoU8'
  subst hn
  cases A with
  | none =>
    have hl0 : l = [] := by
      rcases hs with h | ⟨b, off, h, _⟩
      · exact h
      · cases h
    subst hl0
    have hq := fun W => Lib.run_eql_slice_nil_nil (P := Try.prog) W (t := 30) (e := 5) 0 c Try.underlying30
    go_enter Try.func32, Try.ntmps32
    go_wp2
    go_ret
    exact ⟨_, rfl, ⟨rfl, .inl ⟨rfl, rfl⟩⟩, Below.refl _ _⟩
  | some ad =>
    have hq := fun W => Lib.run_eql_slice_some_nil (P := Try.prog) W (t := 30) (e := 5) ad l.length c Try.underlying30
    have hB : Below w.heap.size w (w.alloc (.cells #[] 5)) := (Below.refl _ _).alloc (Nat.le_refl _) _
    have hs' : Sees .u8 B (w.alloc (.cells #[] 5)) (some ad) l := by
      rcases hs with h | ⟨b, off, h, h2, h3⟩
      · exact .inl h
      · by_cases h0 : l = []
        · exact .inl h0
        · have hlt := World.block_lt_of_cell? w _ (h3 0 (List.length_pos_iff.2 h0))
          exact .inr ⟨b, off, h, h2, fun i hi => (hB.cell (p := ⟨b, off + i, none⟩) hlt).trans (h3 i hi)⟩
    have hl' := Lib.hid hl
    go_enter Try.func32, Try.ntmps32
    go_wp2_with (at_builtin; refine wpList_append_foot _ rfl (.tmp 5) (.tmp 6) 30 rfl 5 i0 (.int .u8 0) 1 Try.underlying30 hi hz0 hz1 hz2 rfl .u8 _ [] (World.ownsRow_made w #[] 0 (Nat.zero_le _) (by decide) (by simp)) B (some ad) l hs' l.length c rfl rfl rfl (by have := hl'.out; simp [maxLen]; omega) (by have := hl'.out; simp; omega) ?_; intro v' w' hown hgrow hblk; simp only [List.nil_append] at hown)
    go_ret
    have hown' : w'.ownsRow w.heap.size 5 1 v' l.length (nums .u8 l) := by
      refine ⟨hown.1, ?_⟩
      rcases hown.2 with h | ⟨g, cap, cur, hv, _, r⟩
      · exact .inl h
      · refine .inr ⟨g, cap, cur, hv, ?_, r⟩
        subst hv
        rcases hblk with h | h <;> simp [Value.ownBlock] at h <;> omega
    exact ⟨v', rfl, hown', hB.grown hgrow hB.size (by intro k hk; simp [Value.ownBlock] at hk; omega)⟩

end Go.Proofs.Ytjhakmpinloioaa
