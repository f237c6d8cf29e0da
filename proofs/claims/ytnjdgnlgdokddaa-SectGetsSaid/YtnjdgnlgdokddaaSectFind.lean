/- sect.Find. -/
import Derived.Test.YtnjdgnlgdokddaaSectPuts
namespace Go.Proofs.Ytnjdgnlgdokddaa
open Go.RowKit
set_option linter.unusedVariables false
set_option linter.unusedSimpArgs false

theorem bclone_any (A : Option Addr) (l : List Int) (n c : Nat) (hn : n = l.length) (B : Nat) (w : World) (hl : l.length ≤ 140737488355328) (hs : Sees .u8 B w A l) :
    Calls Try.prog 36 #[.slice A n c] w (Made 5 .u8 w l) := by
  obtain ⟨i0, hi, hz0, hz1, hz2⟩ := info_parts infoU8
  subst hn
  cases A with
  | none =>
    have hl0 : l = [] := by
      rcases hs with h | ⟨b, off, h, _⟩
      · exact h
      · cases h
    subst hl0
    have hq := fun W => Lib.run_eql_slice_nil_nil (P := Try.prog) W (t := 25) (e := 5) 0 c Try.underlying25
    go_enter Try.func36, Try.ntmps36
    go_wp2
    go_ret
    exact ⟨_, rfl, ⟨rfl, .inl ⟨rfl, rfl⟩⟩, Below.refl _ _⟩
  | some ad =>
    have hq := fun W => Lib.run_eql_slice_some_nil (P := Try.prog) W (t := 25) (e := 5) ad l.length c Try.underlying25
    have hB : Below w.heap.size w (w.alloc (.cells #[] 5)) := (Below.refl _ _).alloc (Nat.le_refl _) _
    have hs' : Sees .u8 B (w.alloc (.cells #[] 5)) (some ad) l := by
      rcases hs with h | ⟨b, off, h, h2, h3⟩
      · exact .inl h
      · by_cases h0 : l = []
        · exact .inl h0
        · have hlt := World.block_lt_of_cell? w _ (h3 0 (List.length_pos_iff.2 h0))
          exact .inr ⟨b, off, h, h2, fun i hi => (hB.cell (p := ⟨b, off + i, none⟩) hlt).trans (h3 i hi)⟩
    have hl' := Lib.hid hl
    go_enter Try.func36, Try.ntmps36
    go_wp2_with (at_builtin; refine wpList_append_foot _ rfl (.tmp 5) (.tmp 6) 25 rfl 5 i0 (.int .u8 0) 1 Try.underlying25 hi hz0 hz1 hz2 rfl .u8 _ [] (World.ownsRow_made w #[] 0 (Nat.zero_le _) (by decide) (by simp)) B (some ad) l hs' l.length c rfl rfl rfl (by have := hl'.out; simp [maxLen]; omega) (by have := hl'.out; simp; omega) ?_; intro v' w' hown hgrow hblk; simp only [List.nil_append] at hown)
    go_ret
    have hown' : w'.ownsRow w.heap.size 5 1 v' l.length (nums .u8 l) := by
      refine ⟨hown.1, ?_⟩
      rcases hown.2 with h | ⟨g, cap, cur, hv, _, r⟩
      · exact .inl h
      · refine .inr ⟨g, cap, cur, hv, ?_, r⟩
        subst hv
        rcases hblk with h | h <;> simp [Value.ownBlock] at h <;> omega
    exact ⟨v', rfl, hown', hB.grown hgrow hB.size (by intro k hk; simp [Value.ownBlock] at hk; omega)⟩

/-- What sect.Find hands back. -/
def FindS (l : List Sc) (tag : Int) (w : World) (e : Ending) (w' : World) : Prop :=
  Below w.heap.size w w' ∧ ((∃ (k : Nat) (a : Option Addr) (c : Nat), k < l.length ∧ (l.getD k sc0).tag = tag ∧ (∀ j, j < k → (l.getD j sc0).tag ≠ tag) ∧ e = .returned (.tuple #[.slice a (l.getD k sc0).b.length c, .bool true]) ∧ Sees .u8 w'.heap.size w' a (l.getD k sc0).b) ∨
    ((∀ j, j < l.length → (l.getD j sc0).tag ≠ tag) ∧ e = .returned (.tuple #[.slice none 0 0, .bool false])))
set_option maxRecDepth 100000 in
theorem find_any (r : Option Addr) (l : List Sc) (n c : Nat) (hn : n = l.length) (hl : n ≤ 1000) (hM : ∀ s ∈ l, s.b.length ≤ 2000000) (tag : Int) (w : World) (h : SecS w.heap.size w r l) :
    Calls Try.prog 16 #[.slice r n c, .int .i64 tag] w (FindS l tag w) := by
  obtain ⟨W1, hW1⟩ : ∃ W1, W1 = w.alloc (.cells #[.int .i64 tag] 3) := ⟨_, rfl⟩
  have hB : Below w.heap.size w W1 := by rw [hW1]; exact below_box _ _ _
  have k0 : Hid (W1.cell? ⟨w.heap.size, 0, none⟩ = some (.int .i64 tag)) := Lib.hid (by rw [hW1]; simp [go_sem])
  have h1 := (h.below hB).mono hB.size
  have hix := Lib.hid (index_tag w.heap.size tag r l n c hn (by omega) W1 h1 k0)
  have hW1' := Lib.hid hW1
  have hB' := Lib.hid hB
  have h1' := Lib.hid h1
  have hM' := Lib.hid hM
  have hn' := Lib.hid hn
  have hli : (n : Int) ≤ 1000 := by omega
  clear h h1 hB hW1 hM hn hl k0
  go_enter Try.func16, Try.ntmps16
  go_wp2_with fail
  rw [← hW1'.out]
  refine hix.out.mono ?_
  rintro e w2 ⟨b2, ⟨k, hk, rfl, hp, hq⟩ | ⟨rfl, hq⟩⟩
  · obtain ⟨b, off, rfl, -, e1, e2, ok⟩ := (h1'.out.below b2).at_ hk
    have hmem : l.getD k sc0 ∈ l := by simp [List.getD, hk]
    have hcl := Lib.hid (bclone_any (l.getD k sc0).a (l.getD k sc0).b (l.getD k sc0).m (l.getD k sc0).c ok.2.1 _ w2 (by have := hM'.out _ hmem; omega) ok.2.2.2.2.2)
    have hkn : k < n := by have := hn'.out; omega
    have hfin : Hid (∀ w3 a c3, Below w2.heap.size w2 w3 → Sees .u8 w3.heap.size w3 a (l.getD k sc0).b → FindS l tag w (.returned (.tuple #[.slice a (l.getD k sc0).b.length c3, .bool true])) w3) := Lib.hid (fun w3 a c3 hb hs =>
      ⟨(hB'.out.trans (b2.mono hB'.out.size)).trans (hb.mono (by have := hB'.out.size; have := b2.size; omega)), .inl ⟨k, a, c3, hk, by simpa using hp, fun j hj => by simpa using hq j hj, rfl, hs⟩⟩)
    clear hp hq ok hmem hix b2 hk
    generalize (l.getD k sc0).b = bb at *
    generalize (l.getD k sc0).tag = tg at *
    generalize (l.getD k sc0).a = ad at *
    generalize (l.getD k sc0).m = mm at *
    generalize (l.getD k sc0).c = cc at *
    go_wp2_with fail
    refine hcl.out.mono ?_
    intro e w3 h3
    obtain ⟨a3, c3, rfl, s3, b3⟩ := h3.open _ rfl
    have hr := Lib.hid (hfin.out w3 a3 c3 b3 s3)
    clear hfin h3 s3 b3 hcl
    go_wp2
    go_ret2
    exact hr.out
  · have hr : FindS l tag w (.returned (.tuple #[.slice none 0 0, .bool false])) w2 := ⟨hB'.out.trans (b2.mono hB'.out.size), .inr ⟨fun j hj => by simpa using hq j hj, rfl⟩⟩
    have hr' := Lib.hid hr
    clear hr hq b2 hix
    go_wp2
    go_ret2
    exact hr'.out
end Go.Proofs.Ytnjdgnlgdokddaa
