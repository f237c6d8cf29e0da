/- The steps by which a table is read. -/
import Derived.Test.YtkfgfbdlbiahkaaStrsRound
import Derived.Test.YtkfgfbdlbiahkaaCurMeth
import Derived.Test.YtkfgfbdlbiahkaaCurMore
namespace Go.Proofs.Ytkfgfbdlbiahkaa
open Go.RowKit
set_option linter.unusedVariables false
set_option linter.unusedSimpArgs false

structure CtxR (W0 : World) (h r : Nat) (a : Option Addr) (cap : Nat) (bs : List Int) : Prop where
  see : SeesE [r, h] .u8 W0.heap.size W0 a bs
  ne : h ≠ r
  lr : r < W0.heap.size
  lh : h < W0.heap.size
  byt : Bs bs
  len : bs.length ≤ maxLen
  capl : bs.length ≤ cap
structure StR (W0 : World) (h r : Nat) (a : Option Addr) (cap : Nat) (bs : List Int) (w : World) (p : Nat) (e : Int) (f : Nat) : Prop where
  rd : Holds w r 68 #[.slice a bs.length cap, .int .i64 p, .int .i64 e]
  hb : Holds w h 51 #[.pointer (some ⟨r, 0, none⟩), .int .i64 f]
  bl : BelowE [r, h] W0.heap.size W0 w
  at_ : p ≤ bs.length
variable {W0 w w1 : World} {h r : Nat} {a : Option Addr} {cap : Nat} {bs : List Int} {p f : Nat} {e : Int}
theorem StR.rdr (s : StR W0 h r a cap bs w p e f) (C : CtxR W0 h r a cap bs) : Rd w r a cap bs p e :=
  ⟨s.rd, ((C.see.belowE s.bl).mono s.bl.size).fewer (by intro y hy _; simp at hy; subst hy; simp), C.byt, C.len, C.capl, s.at_⟩
theorem StR.moved {q : Nat} {y : Int} (s : StR W0 h r a cap bs w p e f) (C : CtxR W0 h r a cap bs) (hm : Moved r a cap bs q y w w1) (hq : q ≤ bs.length) : StR W0 h r a cap bs w1 q y f :=
  ⟨hm.1, s.hb.belowE hm.2 s.hb.lt (by simpa using C.ne), s.bl.trans ((hm.2.mono s.bl.size).wider (by simp)), hq⟩
theorem StR.set (s : StR W0 h r a cap bs w p e f) (C : CtxR W0 h r a cap bs) (q : Nat) : StR W0 h r a cap bs (w.setCell ⟨h, 1, none⟩ (.int .i64 (q : Nat))) p e q :=
  ⟨s.rd.far (p := ⟨h, 1, none⟩) C.ne.symm _, by have := s.hb.set 1 (.int .i64 (q : Nat)); simpa using this, s.bl.setIn (p := ⟨h, 1, none⟩) (by simp) _, s.at_⟩
theorem StR.drewN (s : StR W0 h r a cap bs w p e f) (m : Nat) : StR W0 h r a cap bs (w.drewN m) p e f := ⟨s.rd.drewN m, s.hb.drewN m, s.bl.drewN m, s.at_⟩
theorem StR.below (s : StR W0 h r a cap bs w p e f) (hb : BelowE [] w.heap.size w w1) : StR W0 h r a cap bs w1 p e f :=
  ⟨s.rd.belowE hb s.rd.lt (by simp), s.hb.belowE hb s.hb.lt (by simp), s.bl.trans ((hb.mono s.bl.size).wider (by simp)), s.at_⟩
theorem StR.err (s : StR W0 h r a cap bs w p e f) : w.cell? ⟨r, 2, none⟩ = some (.int .i64 e) := by have := s.rd.cell 2; simpa using this
theorem StR.at1 (s : StR W0 h r a cap bs w p e f) : w.cell? ⟨r, 1, none⟩ = some (.int .i64 p) := by have := s.rd.cell 1; simpa using this
theorem StR.ptr (s : StR W0 h r a cap bs w p e f) : w.cell? ⟨h, 0, none⟩ = some (.pointer (some ⟨r, 0, none⟩)) := by have := s.hb.cell 0; simpa using this
theorem StR.from_ (s : StR W0 h r a cap bs w p e f) : w.cell? ⟨h, 1, none⟩ = some (.int .i64 f) := by have := s.hb.cell 1; simpa using this
theorem StR.free1 (s : StR W0 h r a cap bs w p e f) : w.frozen? ⟨h, 1, none⟩ = false := s.hb.free 1
/-- What a step leaves. -/
def StepR (z : Value) (W0 : World) (h r : Nat) (a : Option Addr) (cap : Nat) (bs : List Int) (q : Nat) (y : Int) (f : Nat) (w : World) (en : Ending) (w' : World) : Prop :=
  en = .returned z ∧ StR W0 h r a cap bs w' q y f ∧ BelowE [r, h] w.heap.size w w'

theorem read_int (C : CtxR W0 h r a cap bs) (s : StR W0 h r a cap bs w p e f) (m : Int) (hm : m ≤ 9223372036854775807) :
    Calls Try.prog 27 #[.pointer (some ⟨h, 0, none⟩), .func (.func 28) #[.pointer (some ⟨r, 0, none⟩)] #[], .int .i64 m] w (StepR (.int .i64 (countO m bs p e).1) W0 h r a cap bs (countO m bs p e).2.1 (countO m bs p e).2.2 p w) := by
  have hat := Lib.hid (at_any r p w s.at1)
  have k0 := s.ptr
  have k1 := s.from_
  have k2 := s.free1
  have s1 := Lib.hid (s.set C p)
  have hq : (countO m bs p e).2.1 ≤ bs.length := countO_at C.byt s.at_ m e
  have hcall := Lib.hid (count_any r a cap bs p e m hm _ (s1.out.rdr C))
  have C' := Lib.hid C
  clear s C hm
  generalize (countO m bs p e).1 = v1 at *
  generalize (countO m bs p e).2.1 = p1 at *
  generalize (countO m bs p e).2.2 = e1 at *
  go_enter Try.func27, Try.ntmps27
  go_wp2_with fail
  refine hat.out.mono ?_
  rintro en w2 ⟨rfl, rfl⟩
  go_wp2_with fail
  refine hcall.out.mono ?_
  rintro en w3 ⟨rfl, hmv⟩
  have s3 := Lib.hid (s1.out.moved C'.out hmv hq)
  have b3 : Hid (BelowE [r, h] w.heap.size w w3) := Lib.hid (((BelowE.refl _ _ _).setIn (p := ⟨h, 1, none⟩) (by simp) _).trans ((hmv.2.wider (Y := [r, h]) (by simp)).mono (B' := w.heap.size) (Nat.le_of_eq (by simp [World.setCell]))))
  clear hmv hcall hat
  go_wp2
  go_ret
  exact ⟨rfl, s3.out, b3.out⟩

theorem read_string (C : CtxR W0 h r a cap bs) (s : StR W0 h r a cap bs w p e f) (m : Int) (hm : m ≤ 9223372036854775807) :
    Calls Try.prog 50 #[.pointer (some ⟨h, 0, none⟩), .func (.func 51) #[.pointer (some ⟨r, 0, none⟩)] #[], .int .i64 m] w (StepR (.string (textO m bs p e).1) W0 h r a cap bs (textO m bs p e).2.1 (textO m bs p e).2.2 p w) := by
  have hat := Lib.hid (at_any r p w s.at1)
  have k0 := s.ptr
  have k1 := s.from_
  have k2 := s.free1
  have s1 := Lib.hid (s.set C p)
  have hq : (textO m bs p e).2.1 ≤ bs.length := textO_at s.at_ m e
  have hcall := Lib.hid (text_any r a cap bs p e m hm _ (s1.out.rdr C))
  have C' := Lib.hid C
  clear s C hm
  generalize (textO m bs p e).1 = v1 at *
  generalize (textO m bs p e).2.1 = p1 at *
  generalize (textO m bs p e).2.2 = e1 at *
  go_enter Try.func50, Try.ntmps50
  go_wp2_with fail
  refine hat.out.mono ?_
  rintro en w2 ⟨rfl, rfl⟩
  go_wp2_with fail
  refine hcall.out.mono ?_
  rintro en w3 ⟨rfl, hmv⟩
  have s3 := Lib.hid (s1.out.moved C'.out hmv hq)
  have b3 : Hid (BelowE [r, h] w.heap.size w w3) := Lib.hid (((BelowE.refl _ _ _).setIn (p := ⟨h, 1, none⟩) (by simp) _).trans ((hmv.2.wider (Y := [r, h]) (by simp)).mono (B' := w.heap.size) (Nat.le_of_eq (by simp [World.setCell]))))
  clear hmv hcall hat
  go_wp2
  go_ret
  exact ⟨rfl, s3.out, b3.out⟩

theorem textO_zero {bs : List Int} {p : Nat} {e : Int} (h : (textO 256 bs p e).2.2 = 0) : e = 0 := by
  by_cases he : e = 0
  · exact he
  · unfold textO at h
    have h2 : (countO 256 bs p e).2.2 = e := by unfold countO uO; rw [if_neg (by intro h3; exact he h3.1), if_neg he]
    rw [h2, if_neg he] at h
    exact absurd h he
theorem countO_in {bs : List Int} (hb : Bs bs) {p : Nat} (hp : p ≤ bs.length) {m : Int} (hm : 0 ≤ m) (h : (countO m bs p 0).2.2 = 0) : 0 ≤ (countO m bs p 0).1 ∧ (countO m bs p 0).1 ≤ m := by
  rcases uO_cases hb hp with ⟨hs, _⟩ | ⟨hs, _⟩ | ⟨n, j, hs, _, h0, h1, _⟩
  · simp [countO, hs] at h
  · simp [countO, hs] at h
  · by_cases hl : m < 0 ∨ m < n
    · simp [countO, hs, hl] at h
    · have : countO m bs p 0 = (n, p + j, 0) := by simp [countO, hs, hl]
      rw [this]
      simp only
      omega
theorem textO_small {bs : List Int} (hb : Bs bs) {p : Nat} (hp : p ≤ bs.length) (e : Int) : (textO 256 bs p e).1.size ≤ 256 := by
  unfold textO
  split
  · rename_i h
    split
    · rw [strOfNums_size, List.length_take]
      by_cases he : e = 0
      · subst he
        have := countO_in hb hp (by omega) h
        omega
      · have : (countO 256 bs p e).1 = 0 := by unfold countO uO; rw [if_neg (by intro h3; exact he h3.1), if_neg he]
        rw [this]; simp
    · simp [ByteArray.size]
  · simp [ByteArray.size]
theorem head_run (s : ByteArray) (k : Nat) (h : k ≤ s.size) (W : World) : (Instr.slice 9 (.string s) none (some (.int .i64 (k : Int))) none).run Try.prog W = .ok (.string (s.extract 0 k)) W := by
  have := run_slice_string_h W 9 s Try.underlying9 .i64 (k : Int) (by omega) (by omega)
  simpa using this

theorem join_size (s : ByteArray) (k : Nat) (x : ByteArray) : (joinT s k x).size = min k s.size + x.size := by
  unfold joinT; rw [ByteArray.size_append, ByteArray.size_extract]; omega
theorem StR.fail (s : StR W0 h r a cap bs w p e f) (C : CtxR W0 h r a cap bs) (x : Int) :
    Calls Try.prog 52 #[.pointer (some ⟨r, 0, none⟩), .int .i64 x] w (StepR (.tuple #[]) W0 h r a cap bs p (failO x e) f w) := by
  refine (fail_any r a cap bs p e x w (s.rdr C)).mono ?_
  rintro en w2 ⟨rfl, hm⟩
  exact ⟨rfl, s.moved C hm s.at_, hm.2.wider (by simp)⟩
/-- What a text's step leaves. -/
def TextR (first : Bool) (la : ByteArray) (W0 : World) (h r : Nat) (a : Option Addr) (cap : Nat) (bs : List Int) (p : Nat) (w : World) (en : Ending) (w' : World) : Prop :=
  (∃ z, en = .returned (.string z) ∧ z.size ≤ 1000 ∧ (tE first la bs p = 0 → z = tS la bs p)) ∧ StR W0 h r a cap bs w' (tX bs p).2.1 (tE first la bs p) (tP bs p) ∧ BelowE [r, h] w.heap.size w w'

set_option maxRecDepth 100000 in
set_option maxHeartbeats 4000000 in
theorem text_bad (C : CtxR W0 h r a cap bs) (s : StR W0 h r a cap bs w p 0 f) (first : Bool) (la : ByteArray) (hla : la.size ≤ 1000) (hbad : (tX bs p).2.2 ≠ 0) :
    Calls Try.prog 30 #[.pointer (some ⟨h, 0, none⟩), .string la, .bool first] w (TextR first la W0 h r a cap bs p w) := by
  have k0 := s.ptr
  have hpl : (p : Int) ≤ 9223372036854775807 := by have := s.at_; have := C.len; unfold maxLen at this; omega
  have hr1 := Lib.hid (read_int C s 256 (by omega))
  have hr2 := Lib.hid (fun (w1 : World) (s1 : StR W0 h r a cap bs w1 (tN bs p).2.1 (tN bs p).2.2 p) => read_string C s1 256 (by omega))
  change Hid (∀ w1, StR W0 h r a cap bs w1 (tN bs p).2.1 (tN bs p).2.2 p → Calls Try.prog 50 _ w1 (StepR (.string (tX bs p).1) W0 h r a cap bs (tX bs p).2.1 (tX bs p).2.2 (tN bs p).2.1 w1)) at hr2
  change Hid (Calls _ _ _ _ (StepR (.int .i64 (tN bs p).1) W0 h r a cap bs (tN bs p).2.1 (tN bs p).2.2 p w)) at hr1
  have C' := Lib.hid C
  have hE : tE first la bs p = (tX bs p).2.2 := by unfold tE; rw [if_pos hbad]
  have hP : tP bs p = (tN bs p).2.1 := by unfold tP; rw [if_pos hbad]
  unfold TextR
  rw [hE, hP]
  have hz : Hid ((tX bs p).2.2 = 0 → e0 = tS la bs p) := Lib.hid (fun h => absurd h hbad)
  clear hE hP
  clear C s hla
  generalize tS la bs p = S at *
  generalize tX bs p = X at *
  obtain ⟨x, q, y⟩ := X
  generalize tN bs p = N at *
  obtain ⟨n, p1, y1⟩ := N
  have hyb : (y != 0) = true := by simpa using hbad
  clear hbad
  go_enter Try.func30, Try.ntmps30
  go_wp2_with fail
  refine hr1.out.mono ?_
  rintro en w1 ⟨rfl, s1, b1⟩
  have k1 := s1.from_
  have k2 := s1.ptr
  have hr3 := Lib.hid (hr2.out w1 s1)
  have b1' := Lib.hid b1
  clear s1 b1 hr1 hr2
  go_wp2_with fail
  refine hr3.out.mono ?_
  rintro en w2 ⟨rfl, s2, b2⟩
  have b2' := Lib.hid (b1'.out.trans (b2.mono b1'.out.size))
  have k3 := s2.ptr
  have k4 := s2.from_
  have k5 := s2.free1
  have herr := Lib.hid (err_any r _ w2 s2.err)
  have s2' := Lib.hid s2
  clear s2 b2 b1' hr3 k0 k1 k2
  go_wp2_with fail
  refine herr.out.mono ?_
  rintro en w3 ⟨rfl, rfl⟩
  clear herr
  go_wp2
  go_ret
  exact ⟨⟨e0, rfl, by simp [e0, ByteArray.size], hz.out⟩, s2'.out, b2'.out⟩

set_option maxRecDepth 100000 in
set_option maxHeartbeats 4000000 in
theorem text_more (C : CtxR W0 h r a cap bs) (s : StR W0 h r a cap bs w p 0 f) (first : Bool) (la : ByteArray) (hla : la.size ≤ 1000) (hok : (tX bs p).2.2 = 0) (hmore : (la.size : Int) < (tN bs p).1) :
    Calls Try.prog 30 #[.pointer (some ⟨h, 0, none⟩), .string la, .bool first] w (TextR first la W0 h r a cap bs p w) := by
  have k0 := s.ptr
  have hpl : (p : Int) ≤ 9223372036854775807 := by have := s.at_; have := C.len; unfold maxLen at this; omega
  have hr1 := Lib.hid (read_int C s 256 (by omega))
  have hr2 := Lib.hid (fun (w1 : World) (s1 : StR W0 h r a cap bs w1 (tN bs p).2.1 (tN bs p).2.2 p) => read_string C s1 256 (by omega))
  change Hid (∀ w1, StR W0 h r a cap bs w1 (tN bs p).2.1 (tN bs p).2.2 p → Calls Try.prog 50 _ w1 (StepR (.string (tX bs p).1) W0 h r a cap bs (tX bs p).2.1 (tX bs p).2.2 (tN bs p).2.1 w1)) at hr2
  change Hid (Calls _ _ _ _ (StepR (.int .i64 (tN bs p).1) W0 h r a cap bs (tN bs p).2.1 (tN bs p).2.2 p w)) at hr1
  have C' := Lib.hid C
  have h1 := textO_zero hok
  have hin := countO_in C.byt s.at_ (m := 256) (by omega) h1
  obtain ⟨k, hk⟩ : ∃ k : Nat, (tN bs p).1 = k := ⟨(tN bs p).1.toNat, by have : 0 ≤ (tN bs p).1 := hin.1; omega⟩
  have hk256 : k ≤ 256 := by have : (tN bs p).1 ≤ 256 := hin.2; omega
  have hP : tP bs p = p := by unfold tP; rw [if_neg (by rw [hok]; simp)]
  have hE : tE first la bs p = 50 := by unfold tE; rw [if_neg (by rw [hok]; simp), if_pos hmore]
  unfold TextR
  rw [hE, hP]
  rw [hk] at hmore
  rw [hk] at hr1
  have hlai : (la.size : Int) ≤ 1000 := by omega
  clear hE hP hin h1
  clear C s hla
  generalize tS la bs p = S at *
  generalize tX bs p = X at *
  obtain ⟨x, q, y⟩ := X
  generalize tN bs p = N at *
  obtain ⟨n, p1, y1⟩ := N
  simp only at hok hk hr1 hr2
  subst hok hk
  go_enter Try.func30, Try.ntmps30
  go_wp2_with fail
  refine hr1.out.mono ?_
  rintro en w1 ⟨rfl, s1, b1⟩
  have k1 := s1.from_
  have k2 := s1.ptr
  have hr3 := Lib.hid (hr2.out w1 s1)
  have b1' := Lib.hid b1
  clear s1 b1 hr1 hr2
  go_wp2_with fail
  refine hr3.out.mono ?_
  rintro en w2 ⟨rfl, s2, b2⟩
  have b2' := Lib.hid (b1'.out.trans (b2.mono b1'.out.size))
  have k3 := s2.ptr
  have k4 := s2.from_
  have k5 := s2.free1
  have herr := Lib.hid (err_any r _ w2 s2.err)
  have s2' := Lib.hid s2
  clear s2 b2 b1' hr3 k0 k1 k2
  go_wp2_with fail
  refine herr.out.mono ?_
  rintro en w3 ⟨rfl, rfl⟩
  clear herr
  have s3' := Lib.hid (s2'.out.set C'.out p)
  have b3' := Lib.hid (b2'.out.setIn (p := ⟨h, 1, none⟩) (by simp) (.int .i64 (p : Nat)))
  have k6 := s3'.out.ptr
  clear s2' b2'
  have hf := Lib.hid (s3'.out.fail C'.out 50)
  go_wp2_with fail
  refine hf.out.mono ?_
  rintro en w4 ⟨rfl, s4, b4⟩
  have s4' := Lib.hid s4
  have b4' := Lib.hid (b3'.out.trans (b4.mono b3'.out.size))
  clear hf s4 b4 s3' b3'
  go_wp2
  go_ret
  exact ⟨⟨e0, rfl, by simp [e0, ByteArray.size], by intro h; omega⟩, by simpa [failO] using s4'.out, b4'.out⟩

set_option maxRecDepth 100000 in
set_option maxHeartbeats 4000000 in
theorem text_ff0 (C : CtxR W0 h r a cap bs) (s : StR W0 h r a cap bs w p 0 f) (first : Bool) (la : ByteArray) (hla : la.size ≤ 1000) (hok : (tX bs p).2.2 = 0) (hno : ¬ (la.size : Int) < (tN bs p).1) (hc : first = false) (hlt : lt8 (byt la) (byt (tS la bs p)) = false) (hbig : ¬ 256 < (tS la bs p).size) :
    Calls Try.prog 30 #[.pointer (some ⟨h, 0, none⟩), .string la, .bool first] w (TextR first la W0 h r a cap bs p w) := by
  have k0 := s.ptr
  have hpl : (p : Int) ≤ 9223372036854775807 := by have := s.at_; have := C.len; unfold maxLen at this; omega
  have hr1 := Lib.hid (read_int C s 256 (by omega))
  have hr2 := Lib.hid (fun (w1 : World) (s1 : StR W0 h r a cap bs w1 (tN bs p).2.1 (tN bs p).2.2 p) => read_string C s1 256 (by omega))
  change Hid (∀ w1, StR W0 h r a cap bs w1 (tN bs p).2.1 (tN bs p).2.2 p → Calls Try.prog 50 _ w1 (StepR (.string (tX bs p).1) W0 h r a cap bs (tX bs p).2.1 (tX bs p).2.2 (tN bs p).2.1 w1)) at hr2
  change Hid (Calls _ _ _ _ (StepR (.int .i64 (tN bs p).1) W0 h r a cap bs (tN bs p).2.1 (tN bs p).2.2 p w)) at hr1
  have C' := Lib.hid C
  have h1 := textO_zero hok
  have hin := countO_in C.byt s.at_ (m := 256) (by omega) h1
  obtain ⟨k, hk⟩ : ∃ k : Nat, (tN bs p).1 = k := ⟨(tN bs p).1.toNat, by have : 0 ≤ (tN bs p).1 := hin.1; omega⟩
  have hk256 : k ≤ 256 := by have : (tN bs p).1 ≤ 256 := hin.2; omega
  have hP : tP bs p = p := by unfold tP; rw [if_neg (by rw [hok]; simp)]
  have hE : tE first la bs p = 50 := by unfold tE; rw [if_neg (by rw [hok]; simp), if_neg hno, if_pos (.inl (by rw [hc, hlt]; rfl))]
  have hS : tS la bs p = joinT la k (tX bs p).1 := by unfold tS; rw [hk]; rfl
  have hlai : (la.size : Int) ≤ 1000 := by omega
  have hxs : (tX bs p).1.size ≤ 256 := textO_small C.byt (countO_at C.byt s.at_ 256 0) _
  have hks : k ≤ la.size := by omega
  have hhd := head_run la k hks
  have hadd : ¬ 9223372036854775807 < (la.extract 0 k).size + (tX bs p).1.size := by rw [ByteArray.size_extract]; omega
  have hjs := join_size la k (tX bs p).1
  have hSz : (tS la bs p).size ≤ 1000 := by rw [hS, hjs]; omega
  have hjd : la.extract 0 k ++ (tX bs p).1 = tS la bs p := by rw [hS]; rfl
  have hcmp := leq_yes (x := tS la bs p) (y := la) hlt
  unfold TextR
  rw [hE, hP]
  have hbi : ¬ (256 : Int) < ((la.extract 0 k).size : Int) + ((tX bs p).1.size : Int) := by have h5 := congrArg ByteArray.size hjd; rw [ByteArray.size_append] at h5; omega
  have hSi : ((tS la bs p).size : Int) ≤ 1000 := by omega
  clear hE hP hin h1 hS hxs hjs hbig hno
  rw [hk] at hr1
  subst hc
  clear C s hla
  generalize tS la bs p = S at *
  generalize tX bs p = X at *
  obtain ⟨x, q, y⟩ := X
  generalize tN bs p = N at *
  obtain ⟨n, p1, y1⟩ := N
  simp only at hok hk hr1 hr2
  subst hok hk
  generalize la.extract 0 k = la0 at *
  subst hjd

  go_enter Try.func30, Try.ntmps30
  go_wp2_with fail
  refine hr1.out.mono ?_
  rintro en w1 ⟨rfl, s1, b1⟩
  have k1 := s1.from_
  have k2 := s1.ptr
  have hr3 := Lib.hid (hr2.out w1 s1)
  have b1' := Lib.hid b1
  clear s1 b1 hr1 hr2
  go_wp2_with fail
  refine hr3.out.mono ?_
  rintro en w2 ⟨rfl, s2, b2⟩
  have b2' := Lib.hid (b1'.out.trans (b2.mono b1'.out.size))
  have k3 := s2.ptr
  have k4 := s2.from_
  have k5 := s2.free1
  have herr := Lib.hid (err_any r _ w2 s2.err)
  have s2' := Lib.hid s2
  clear s2 b2 b1' hr3 k0 k1 k2
  go_wp2_with fail
  refine herr.out.mono ?_
  rintro en w3 ⟨rfl, rfl⟩
  clear herr
  have s3' := Lib.hid (s2'.out.set C'.out p)
  have b3' := Lib.hid (b2'.out.setIn (p := ⟨h, 1, none⟩) (by simp) (.int .i64 (p : Nat)))
  have k6 := s3'.out.ptr
  clear s2' b2'
  rcases hcmp with hc1 | ⟨hc1, hc2⟩
  · have hf := Lib.hid (s3'.out.fail C'.out 50)
    go_wp2_with fail
    refine hf.out.mono ?_
    rintro en w5 ⟨rfl, s5, b5⟩
    have s5' := Lib.hid s5
    have k8 := s5.ptr
    have b5' := Lib.hid (b3'.out.trans (b5.mono b3'.out.size))
    clear hf s5 b5 s3' b3'
    go_wp2
    go_ret
    exact ⟨⟨_, rfl, hSz, fun _ => rfl⟩, by simpa [failO] using s5'.out, b5'.out⟩
  · have hf := Lib.hid (s3'.out.fail C'.out 50)
    go_wp2_with fail
    refine hf.out.mono ?_
    rintro en w5 ⟨rfl, s5, b5⟩
    have s5' := Lib.hid s5
    have k8 := s5.ptr
    have b5' := Lib.hid (b3'.out.trans (b5.mono b3'.out.size))
    clear hf s5 b5 s3' b3'
    go_wp2
    go_ret
    exact ⟨⟨_, rfl, hSz, fun _ => rfl⟩, by simpa [failO] using s5'.out, b5'.out⟩

set_option maxRecDepth 100000 in
set_option maxHeartbeats 4000000 in
theorem text_ff1 (C : CtxR W0 h r a cap bs) (s : StR W0 h r a cap bs w p 0 f) (first : Bool) (la : ByteArray) (hla : la.size ≤ 1000) (hok : (tX bs p).2.2 = 0) (hno : ¬ (la.size : Int) < (tN bs p).1) (hc : first = false) (hlt : lt8 (byt la) (byt (tS la bs p)) = false) (hbig : 256 < (tS la bs p).size) :
    Calls Try.prog 30 #[.pointer (some ⟨h, 0, none⟩), .string la, .bool first] w (TextR first la W0 h r a cap bs p w) := by
  have k0 := s.ptr
  have hpl : (p : Int) ≤ 9223372036854775807 := by have := s.at_; have := C.len; unfold maxLen at this; omega
  have hr1 := Lib.hid (read_int C s 256 (by omega))
  have hr2 := Lib.hid (fun (w1 : World) (s1 : StR W0 h r a cap bs w1 (tN bs p).2.1 (tN bs p).2.2 p) => read_string C s1 256 (by omega))
  change Hid (∀ w1, StR W0 h r a cap bs w1 (tN bs p).2.1 (tN bs p).2.2 p → Calls Try.prog 50 _ w1 (StepR (.string (tX bs p).1) W0 h r a cap bs (tX bs p).2.1 (tX bs p).2.2 (tN bs p).2.1 w1)) at hr2
  change Hid (Calls _ _ _ _ (StepR (.int .i64 (tN bs p).1) W0 h r a cap bs (tN bs p).2.1 (tN bs p).2.2 p w)) at hr1
  have C' := Lib.hid C
  have h1 := textO_zero hok
  have hin := countO_in C.byt s.at_ (m := 256) (by omega) h1
  obtain ⟨k, hk⟩ : ∃ k : Nat, (tN bs p).1 = k := ⟨(tN bs p).1.toNat, by have : 0 ≤ (tN bs p).1 := hin.1; omega⟩
  have hk256 : k ≤ 256 := by have : (tN bs p).1 ≤ 256 := hin.2; omega
  have hP : tP bs p = p := by unfold tP; rw [if_neg (by rw [hok]; simp)]
  have hE : tE first la bs p = 50 := by unfold tE; rw [if_neg (by rw [hok]; simp), if_neg hno, if_pos (.inl (by rw [hc, hlt]; rfl))]
  have hS : tS la bs p = joinT la k (tX bs p).1 := by unfold tS; rw [hk]; rfl
  have hlai : (la.size : Int) ≤ 1000 := by omega
  have hxs : (tX bs p).1.size ≤ 256 := textO_small C.byt (countO_at C.byt s.at_ 256 0) _
  have hks : k ≤ la.size := by omega
  have hhd := head_run la k hks
  have hadd : ¬ 9223372036854775807 < (la.extract 0 k).size + (tX bs p).1.size := by rw [ByteArray.size_extract]; omega
  have hjs := join_size la k (tX bs p).1
  have hSz : (tS la bs p).size ≤ 1000 := by rw [hS, hjs]; omega
  have hjd : la.extract 0 k ++ (tX bs p).1 = tS la bs p := by rw [hS]; rfl
  have hcmp := leq_yes (x := tS la bs p) (y := la) hlt
  unfold TextR
  rw [hE, hP]
  have hbi :  (256 : Int) < ((la.extract 0 k).size : Int) + ((tX bs p).1.size : Int) := by have h5 := congrArg ByteArray.size hjd; rw [ByteArray.size_append] at h5; omega
  have hSi : ((tS la bs p).size : Int) ≤ 1000 := by omega
  clear hE hP hin h1 hS hxs hjs hbig hno
  rw [hk] at hr1
  subst hc
  clear C s hla
  generalize tS la bs p = S at *
  generalize tX bs p = X at *
  obtain ⟨x, q, y⟩ := X
  generalize tN bs p = N at *
  obtain ⟨n, p1, y1⟩ := N
  simp only at hok hk hr1 hr2
  subst hok hk
  generalize la.extract 0 k = la0 at *
  subst hjd

  go_enter Try.func30, Try.ntmps30
  go_wp2_with fail
  refine hr1.out.mono ?_
  rintro en w1 ⟨rfl, s1, b1⟩
  have k1 := s1.from_
  have k2 := s1.ptr
  have hr3 := Lib.hid (hr2.out w1 s1)
  have b1' := Lib.hid b1
  clear s1 b1 hr1 hr2
  go_wp2_with fail
  refine hr3.out.mono ?_
  rintro en w2 ⟨rfl, s2, b2⟩
  have b2' := Lib.hid (b1'.out.trans (b2.mono b1'.out.size))
  have k3 := s2.ptr
  have k4 := s2.from_
  have k5 := s2.free1
  have herr := Lib.hid (err_any r _ w2 s2.err)
  have s2' := Lib.hid s2
  clear s2 b2 b1' hr3 k0 k1 k2
  go_wp2_with fail
  refine herr.out.mono ?_
  rintro en w3 ⟨rfl, rfl⟩
  clear herr
  have s3' := Lib.hid (s2'.out.set C'.out p)
  have b3' := Lib.hid (b2'.out.setIn (p := ⟨h, 1, none⟩) (by simp) (.int .i64 (p : Nat)))
  have k6 := s3'.out.ptr
  clear s2' b2'
  rcases hcmp with hc1 | ⟨hc1, hc2⟩
  · have hf := Lib.hid (s3'.out.fail C'.out 50)
    go_wp2_with fail
    refine hf.out.mono ?_
    rintro en w5 ⟨rfl, s5, b5⟩
    have s5' := Lib.hid s5
    have k8 := s5.ptr
    have b5' := Lib.hid (b3'.out.trans (b5.mono b3'.out.size))
    clear hf s5 b5 s3' b3'
    have hf := Lib.hid (s5'.out.fail C'.out 3)
    go_wp2_with fail
    refine hf.out.mono ?_
    rintro en w6 ⟨rfl, s6, b6⟩
    have s6' := Lib.hid s6
    have b6' := Lib.hid (b5'.out.trans (b6.mono b5'.out.size))
    clear hf s6 b6 s5' b5'
    go_wp2
    go_ret
    exact ⟨⟨_, rfl, hSz, fun _ => rfl⟩, by simpa [failO] using s6'.out, b6'.out⟩
  · have hf := Lib.hid (s3'.out.fail C'.out 50)
    go_wp2_with fail
    refine hf.out.mono ?_
    rintro en w5 ⟨rfl, s5, b5⟩
    have s5' := Lib.hid s5
    have k8 := s5.ptr
    have b5' := Lib.hid (b3'.out.trans (b5.mono b3'.out.size))
    clear hf s5 b5 s3' b3'
    have hf := Lib.hid (s5'.out.fail C'.out 3)
    go_wp2_with fail
    refine hf.out.mono ?_
    rintro en w6 ⟨rfl, s6, b6⟩
    have s6' := Lib.hid s6
    have b6' := Lib.hid (b5'.out.trans (b6.mono b5'.out.size))
    clear hf s6 b6 s5' b5'
    go_wp2
    go_ret
    exact ⟨⟨_, rfl, hSz, fun _ => rfl⟩, by simpa [failO] using s6'.out, b6'.out⟩

set_option maxRecDepth 100000 in
set_option maxHeartbeats 4000000 in
theorem text_ttA0 (C : CtxR W0 h r a cap bs) (s : StR W0 h r a cap bs w p 0 f) (first : Bool) (la : ByteArray) (hla : la.size ≤ 1000) (hok : (tX bs p).2.2 = 0) (hno : ¬ (la.size : Int) < (tN bs p).1) (hc : first = true) (hal : (tN bs p).1 < (alikeL (byt la) (byt (tS la bs p)) : Nat)) (hbig : ¬ 256 < (tS la bs p).size) :
    Calls Try.prog 30 #[.pointer (some ⟨h, 0, none⟩), .string la, .bool first] w (TextR first la W0 h r a cap bs p w) := by
  have k0 := s.ptr
  have hpl : (p : Int) ≤ 9223372036854775807 := by have := s.at_; have := C.len; unfold maxLen at this; omega
  have hr1 := Lib.hid (read_int C s 256 (by omega))
  have hr2 := Lib.hid (fun (w1 : World) (s1 : StR W0 h r a cap bs w1 (tN bs p).2.1 (tN bs p).2.2 p) => read_string C s1 256 (by omega))
  change Hid (∀ w1, StR W0 h r a cap bs w1 (tN bs p).2.1 (tN bs p).2.2 p → Calls Try.prog 50 _ w1 (StepR (.string (tX bs p).1) W0 h r a cap bs (tX bs p).2.1 (tX bs p).2.2 (tN bs p).2.1 w1)) at hr2
  change Hid (Calls _ _ _ _ (StepR (.int .i64 (tN bs p).1) W0 h r a cap bs (tN bs p).2.1 (tN bs p).2.2 p w)) at hr1
  have C' := Lib.hid C
  have h1 := textO_zero hok
  have hin := countO_in C.byt s.at_ (m := 256) (by omega) h1
  obtain ⟨k, hk⟩ : ∃ k : Nat, (tN bs p).1 = k := ⟨(tN bs p).1.toNat, by have : 0 ≤ (tN bs p).1 := hin.1; omega⟩
  have hk256 : k ≤ 256 := by have : (tN bs p).1 ≤ 256 := hin.2; omega
  have hP : tP bs p = p := by unfold tP; rw [if_neg (by rw [hok]; simp)]
  have hE : tE first la bs p = 50 := by unfold tE; rw [if_neg (by rw [hok]; simp), if_neg hno, if_pos (.inr hal)]
  have hS : tS la bs p = joinT la k (tX bs p).1 := by unfold tS; rw [hk]; rfl
  have hlai : (la.size : Int) ≤ 1000 := by omega
  have hxs : (tX bs p).1.size ≤ 256 := textO_small C.byt (countO_at C.byt s.at_ 256 0) _
  have hks : k ≤ la.size := by omega
  have hhd := head_run la k hks
  have hadd : ¬ 9223372036854775807 < (la.extract 0 k).size + (tX bs p).1.size := by rw [ByteArray.size_extract]; omega
  have hjs := join_size la k (tX bs p).1
  have hSz : (tS la bs p).size ≤ 1000 := by rw [hS, hjs]; omega
  have hjd : la.extract 0 k ++ (tX bs p).1 = tS la bs p := by rw [hS]; rfl
  have hcall := Lib.hid (fun W => alike_any la (tS la bs p) (by omega) (by omega) W)
  rw [hk] at hal
  unfold TextR
  rw [hE, hP]
  have hbi : ¬ (256 : Int) < ((la.extract 0 k).size : Int) + ((tX bs p).1.size : Int) := by have h5 := congrArg ByteArray.size hjd; rw [ByteArray.size_append] at h5; omega
  have hSi : ((tS la bs p).size : Int) ≤ 1000 := by omega
  have hali :  (k : Int) < ((alikeL (byt la) (byt (tS la bs p)) : Nat) : Int) := hal
  clear hE hP hin h1 hS hxs hjs hbig hno hal
  rw [hk] at hr1
  subst hc
  clear C s hla
  generalize tS la bs p = S at *
  generalize alikeL (byt la) (byt S) = q2 at *
  generalize tX bs p = X at *
  obtain ⟨x, q, y⟩ := X
  generalize tN bs p = N at *
  obtain ⟨n, p1, y1⟩ := N
  simp only at hok hk hr1 hr2
  subst hok hk
  generalize la.extract 0 k = la0 at *
  subst hjd

  go_enter Try.func30, Try.ntmps30
  go_wp2_with fail
  refine hr1.out.mono ?_
  rintro en w1 ⟨rfl, s1, b1⟩
  have k1 := s1.from_
  have k2 := s1.ptr
  have hr3 := Lib.hid (hr2.out w1 s1)
  have b1' := Lib.hid b1
  clear s1 b1 hr1 hr2
  go_wp2_with fail
  refine hr3.out.mono ?_
  rintro en w2 ⟨rfl, s2, b2⟩
  have b2' := Lib.hid (b1'.out.trans (b2.mono b1'.out.size))
  have k3 := s2.ptr
  have k4 := s2.from_
  have k5 := s2.free1
  have herr := Lib.hid (err_any r _ w2 s2.err)
  have s2' := Lib.hid s2
  clear s2 b2 b1' hr3 k0 k1 k2
  go_wp2_with fail
  refine herr.out.mono ?_
  rintro en w3 ⟨rfl, rfl⟩
  clear herr
  have s3' := Lib.hid (s2'.out.set C'.out p)
  have b3' := Lib.hid (b2'.out.setIn (p := ⟨h, 1, none⟩) (by simp) (.int .i64 (p : Nat)))
  have k6 := s3'.out.ptr
  clear s2' b2'
  go_wp2_with fail
  refine (hcall.out _).mono ?_
  rintro en w4 ⟨rfl, m4, rfl⟩
  have s4' := Lib.hid (s3'.out.drewN m4)
  have b4' := Lib.hid (b3'.out.drewN m4)
  have k7 := s4'.out.ptr
  clear s3' b3' k6 hcall
  have hf := Lib.hid (s4'.out.fail C'.out 50)
  go_wp2_with fail
  refine hf.out.mono ?_
  rintro en w5 ⟨rfl, s5, b5⟩
  have s5' := Lib.hid s5
  have k8 := s5.ptr
  have b5' := Lib.hid (b4'.out.trans (b5.mono b4'.out.size))
  clear hf s5 b5 s4' b4'
  go_wp2
  go_ret
  exact ⟨⟨_, rfl, hSz, fun _ => rfl⟩, by simpa [failO] using s5'.out, b5'.out⟩

set_option maxRecDepth 100000 in
set_option maxHeartbeats 4000000 in
theorem text_ttA1 (C : CtxR W0 h r a cap bs) (s : StR W0 h r a cap bs w p 0 f) (first : Bool) (la : ByteArray) (hla : la.size ≤ 1000) (hok : (tX bs p).2.2 = 0) (hno : ¬ (la.size : Int) < (tN bs p).1) (hc : first = true) (hal : (tN bs p).1 < (alikeL (byt la) (byt (tS la bs p)) : Nat)) (hbig : 256 < (tS la bs p).size) :
    Calls Try.prog 30 #[.pointer (some ⟨h, 0, none⟩), .string la, .bool first] w (TextR first la W0 h r a cap bs p w) := by
  have k0 := s.ptr
  have hpl : (p : Int) ≤ 9223372036854775807 := by have := s.at_; have := C.len; unfold maxLen at this; omega
  have hr1 := Lib.hid (read_int C s 256 (by omega))
  have hr2 := Lib.hid (fun (w1 : World) (s1 : StR W0 h r a cap bs w1 (tN bs p).2.1 (tN bs p).2.2 p) => read_string C s1 256 (by omega))
  change Hid (∀ w1, StR W0 h r a cap bs w1 (tN bs p).2.1 (tN bs p).2.2 p → Calls Try.prog 50 _ w1 (StepR (.string (tX bs p).1) W0 h r a cap bs (tX bs p).2.1 (tX bs p).2.2 (tN bs p).2.1 w1)) at hr2
  change Hid (Calls _ _ _ _ (StepR (.int .i64 (tN bs p).1) W0 h r a cap bs (tN bs p).2.1 (tN bs p).2.2 p w)) at hr1
  have C' := Lib.hid C
  have h1 := textO_zero hok
  have hin := countO_in C.byt s.at_ (m := 256) (by omega) h1
  obtain ⟨k, hk⟩ : ∃ k : Nat, (tN bs p).1 = k := ⟨(tN bs p).1.toNat, by have : 0 ≤ (tN bs p).1 := hin.1; omega⟩
  have hk256 : k ≤ 256 := by have : (tN bs p).1 ≤ 256 := hin.2; omega
  have hP : tP bs p = p := by unfold tP; rw [if_neg (by rw [hok]; simp)]
  have hE : tE first la bs p = 50 := by unfold tE; rw [if_neg (by rw [hok]; simp), if_neg hno, if_pos (.inr hal)]
  have hS : tS la bs p = joinT la k (tX bs p).1 := by unfold tS; rw [hk]; rfl
  have hlai : (la.size : Int) ≤ 1000 := by omega
  have hxs : (tX bs p).1.size ≤ 256 := textO_small C.byt (countO_at C.byt s.at_ 256 0) _
  have hks : k ≤ la.size := by omega
  have hhd := head_run la k hks
  have hadd : ¬ 9223372036854775807 < (la.extract 0 k).size + (tX bs p).1.size := by rw [ByteArray.size_extract]; omega
  have hjs := join_size la k (tX bs p).1
  have hSz : (tS la bs p).size ≤ 1000 := by rw [hS, hjs]; omega
  have hjd : la.extract 0 k ++ (tX bs p).1 = tS la bs p := by rw [hS]; rfl
  have hcall := Lib.hid (fun W => alike_any la (tS la bs p) (by omega) (by omega) W)
  rw [hk] at hal
  unfold TextR
  rw [hE, hP]
  have hbi :  (256 : Int) < ((la.extract 0 k).size : Int) + ((tX bs p).1.size : Int) := by have h5 := congrArg ByteArray.size hjd; rw [ByteArray.size_append] at h5; omega
  have hSi : ((tS la bs p).size : Int) ≤ 1000 := by omega
  have hali :  (k : Int) < ((alikeL (byt la) (byt (tS la bs p)) : Nat) : Int) := hal
  clear hE hP hin h1 hS hxs hjs hbig hno hal
  rw [hk] at hr1
  subst hc
  clear C s hla
  generalize tS la bs p = S at *
  generalize alikeL (byt la) (byt S) = q2 at *
  generalize tX bs p = X at *
  obtain ⟨x, q, y⟩ := X
  generalize tN bs p = N at *
  obtain ⟨n, p1, y1⟩ := N
  simp only at hok hk hr1 hr2
  subst hok hk
  generalize la.extract 0 k = la0 at *
  subst hjd

  go_enter Try.func30, Try.ntmps30
  go_wp2_with fail
  refine hr1.out.mono ?_
  rintro en w1 ⟨rfl, s1, b1⟩
  have k1 := s1.from_
  have k2 := s1.ptr
  have hr3 := Lib.hid (hr2.out w1 s1)
  have b1' := Lib.hid b1
  clear s1 b1 hr1 hr2
  go_wp2_with fail
  refine hr3.out.mono ?_
  rintro en w2 ⟨rfl, s2, b2⟩
  have b2' := Lib.hid (b1'.out.trans (b2.mono b1'.out.size))
  have k3 := s2.ptr
  have k4 := s2.from_
  have k5 := s2.free1
  have herr := Lib.hid (err_any r _ w2 s2.err)
  have s2' := Lib.hid s2
  clear s2 b2 b1' hr3 k0 k1 k2
  go_wp2_with fail
  refine herr.out.mono ?_
  rintro en w3 ⟨rfl, rfl⟩
  clear herr
  have s3' := Lib.hid (s2'.out.set C'.out p)
  have b3' := Lib.hid (b2'.out.setIn (p := ⟨h, 1, none⟩) (by simp) (.int .i64 (p : Nat)))
  have k6 := s3'.out.ptr
  clear s2' b2'
  go_wp2_with fail
  refine (hcall.out _).mono ?_
  rintro en w4 ⟨rfl, m4, rfl⟩
  have s4' := Lib.hid (s3'.out.drewN m4)
  have b4' := Lib.hid (b3'.out.drewN m4)
  have k7 := s4'.out.ptr
  clear s3' b3' k6 hcall
  have hf := Lib.hid (s4'.out.fail C'.out 50)
  go_wp2_with fail
  refine hf.out.mono ?_
  rintro en w5 ⟨rfl, s5, b5⟩
  have s5' := Lib.hid s5
  have k8 := s5.ptr
  have b5' := Lib.hid (b4'.out.trans (b5.mono b4'.out.size))
  clear hf s5 b5 s4' b4'
  have hf := Lib.hid (s5'.out.fail C'.out 3)
  go_wp2_with fail
  refine hf.out.mono ?_
  rintro en w6 ⟨rfl, s6, b6⟩
  have s6' := Lib.hid s6
  have b6' := Lib.hid (b5'.out.trans (b6.mono b5'.out.size))
  clear hf s6 b6 s5' b5'
  go_wp2
  go_ret
  exact ⟨⟨_, rfl, hSz, fun _ => rfl⟩, by simpa [failO] using s6'.out, b6'.out⟩

set_option maxRecDepth 100000 in
set_option maxHeartbeats 4000000 in
theorem text_ttB0 (C : CtxR W0 h r a cap bs) (s : StR W0 h r a cap bs w p 0 f) (first : Bool) (la : ByteArray) (hla : la.size ≤ 1000) (hok : (tX bs p).2.2 = 0) (hno : ¬ (la.size : Int) < (tN bs p).1) (hc : first = true) (hal : ¬ (tN bs p).1 < (alikeL (byt la) (byt (tS la bs p)) : Nat)) (hbig : ¬ 256 < (tS la bs p).size) :
    Calls Try.prog 30 #[.pointer (some ⟨h, 0, none⟩), .string la, .bool first] w (TextR first la W0 h r a cap bs p w) := by
  have k0 := s.ptr
  have hpl : (p : Int) ≤ 9223372036854775807 := by have := s.at_; have := C.len; unfold maxLen at this; omega
  have hr1 := Lib.hid (read_int C s 256 (by omega))
  have hr2 := Lib.hid (fun (w1 : World) (s1 : StR W0 h r a cap bs w1 (tN bs p).2.1 (tN bs p).2.2 p) => read_string C s1 256 (by omega))
  change Hid (∀ w1, StR W0 h r a cap bs w1 (tN bs p).2.1 (tN bs p).2.2 p → Calls Try.prog 50 _ w1 (StepR (.string (tX bs p).1) W0 h r a cap bs (tX bs p).2.1 (tX bs p).2.2 (tN bs p).2.1 w1)) at hr2
  change Hid (Calls _ _ _ _ (StepR (.int .i64 (tN bs p).1) W0 h r a cap bs (tN bs p).2.1 (tN bs p).2.2 p w)) at hr1
  have C' := Lib.hid C
  have h1 := textO_zero hok
  have hin := countO_in C.byt s.at_ (m := 256) (by omega) h1
  obtain ⟨k, hk⟩ : ∃ k : Nat, (tN bs p).1 = k := ⟨(tN bs p).1.toNat, by have : 0 ≤ (tN bs p).1 := hin.1; omega⟩
  have hk256 : k ≤ 256 := by have : (tN bs p).1 ≤ 256 := hin.2; omega
  have hP : tP bs p = p := by unfold tP; rw [if_neg (by rw [hok]; simp)]
  have hE : tE first la bs p = 0 := by unfold tE; rw [if_neg (by rw [hok]; simp), if_neg hno, if_neg (by rintro (h4 | h4); (rw [hc] at h4; simp at h4); exact hal h4), if_neg hbig]
  have hS : tS la bs p = joinT la k (tX bs p).1 := by unfold tS; rw [hk]; rfl
  have hlai : (la.size : Int) ≤ 1000 := by omega
  have hxs : (tX bs p).1.size ≤ 256 := textO_small C.byt (countO_at C.byt s.at_ 256 0) _
  have hks : k ≤ la.size := by omega
  have hhd := head_run la k hks
  have hadd : ¬ 9223372036854775807 < (la.extract 0 k).size + (tX bs p).1.size := by rw [ByteArray.size_extract]; omega
  have hjs := join_size la k (tX bs p).1
  have hSz : (tS la bs p).size ≤ 1000 := by rw [hS, hjs]; omega
  have hjd : la.extract 0 k ++ (tX bs p).1 = tS la bs p := by rw [hS]; rfl
  have hcall := Lib.hid (fun W => alike_any la (tS la bs p) (by omega) (by omega) W)
  rw [hk] at hal
  unfold TextR
  rw [hE, hP]
  have hbi : ¬ (256 : Int) < ((la.extract 0 k).size : Int) + ((tX bs p).1.size : Int) := by have h5 := congrArg ByteArray.size hjd; rw [ByteArray.size_append] at h5; omega
  have hSi : ((tS la bs p).size : Int) ≤ 1000 := by omega
  have hali : ¬ (k : Int) < ((alikeL (byt la) (byt (tS la bs p)) : Nat) : Int) := hal
  clear hE hP hin h1 hS hxs hjs hbig hno hal
  rw [hk] at hr1
  subst hc
  clear C s hla
  generalize tS la bs p = S at *
  generalize alikeL (byt la) (byt S) = q2 at *
  generalize tX bs p = X at *
  obtain ⟨x, q, y⟩ := X
  generalize tN bs p = N at *
  obtain ⟨n, p1, y1⟩ := N
  simp only at hok hk hr1 hr2
  subst hok hk
  generalize la.extract 0 k = la0 at *
  subst hjd

  go_enter Try.func30, Try.ntmps30
  go_wp2_with fail
  refine hr1.out.mono ?_
  rintro en w1 ⟨rfl, s1, b1⟩
  have k1 := s1.from_
  have k2 := s1.ptr
  have hr3 := Lib.hid (hr2.out w1 s1)
  have b1' := Lib.hid b1
  clear s1 b1 hr1 hr2
  go_wp2_with fail
  refine hr3.out.mono ?_
  rintro en w2 ⟨rfl, s2, b2⟩
  have b2' := Lib.hid (b1'.out.trans (b2.mono b1'.out.size))
  have k3 := s2.ptr
  have k4 := s2.from_
  have k5 := s2.free1
  have herr := Lib.hid (err_any r _ w2 s2.err)
  have s2' := Lib.hid s2
  clear s2 b2 b1' hr3 k0 k1 k2
  go_wp2_with fail
  refine herr.out.mono ?_
  rintro en w3 ⟨rfl, rfl⟩
  clear herr
  have s3' := Lib.hid (s2'.out.set C'.out p)
  have b3' := Lib.hid (b2'.out.setIn (p := ⟨h, 1, none⟩) (by simp) (.int .i64 (p : Nat)))
  have k6 := s3'.out.ptr
  clear s2' b2'
  go_wp2_with fail
  refine (hcall.out _).mono ?_
  rintro en w4 ⟨rfl, m4, rfl⟩
  have s4' := Lib.hid (s3'.out.drewN m4)
  have b4' := Lib.hid (b3'.out.drewN m4)
  have k7 := s4'.out.ptr
  clear s3' b3' k6 hcall
  go_wp2
  go_ret
  exact ⟨⟨_, rfl, hSz, fun _ => rfl⟩, by simpa [failO] using s4'.out, b4'.out⟩

set_option maxRecDepth 100000 in
set_option maxHeartbeats 4000000 in
theorem text_ttB1 (C : CtxR W0 h r a cap bs) (s : StR W0 h r a cap bs w p 0 f) (first : Bool) (la : ByteArray) (hla : la.size ≤ 1000) (hok : (tX bs p).2.2 = 0) (hno : ¬ (la.size : Int) < (tN bs p).1) (hc : first = true) (hal : ¬ (tN bs p).1 < (alikeL (byt la) (byt (tS la bs p)) : Nat)) (hbig : 256 < (tS la bs p).size) :
    Calls Try.prog 30 #[.pointer (some ⟨h, 0, none⟩), .string la, .bool first] w (TextR first la W0 h r a cap bs p w) := by
  have k0 := s.ptr
  have hpl : (p : Int) ≤ 9223372036854775807 := by have := s.at_; have := C.len; unfold maxLen at this; omega
  have hr1 := Lib.hid (read_int C s 256 (by omega))
  have hr2 := Lib.hid (fun (w1 : World) (s1 : StR W0 h r a cap bs w1 (tN bs p).2.1 (tN bs p).2.2 p) => read_string C s1 256 (by omega))
  change Hid (∀ w1, StR W0 h r a cap bs w1 (tN bs p).2.1 (tN bs p).2.2 p → Calls Try.prog 50 _ w1 (StepR (.string (tX bs p).1) W0 h r a cap bs (tX bs p).2.1 (tX bs p).2.2 (tN bs p).2.1 w1)) at hr2
  change Hid (Calls _ _ _ _ (StepR (.int .i64 (tN bs p).1) W0 h r a cap bs (tN bs p).2.1 (tN bs p).2.2 p w)) at hr1
  have C' := Lib.hid C
  have h1 := textO_zero hok
  have hin := countO_in C.byt s.at_ (m := 256) (by omega) h1
  obtain ⟨k, hk⟩ : ∃ k : Nat, (tN bs p).1 = k := ⟨(tN bs p).1.toNat, by have : 0 ≤ (tN bs p).1 := hin.1; omega⟩
  have hk256 : k ≤ 256 := by have : (tN bs p).1 ≤ 256 := hin.2; omega
  have hP : tP bs p = p := by unfold tP; rw [if_neg (by rw [hok]; simp)]
  have hE : tE first la bs p = 3 := by unfold tE; rw [if_neg (by rw [hok]; simp), if_neg hno, if_neg (by rintro (h4 | h4); (rw [hc] at h4; simp at h4); exact hal h4), if_pos hbig]
  have hS : tS la bs p = joinT la k (tX bs p).1 := by unfold tS; rw [hk]; rfl
  have hlai : (la.size : Int) ≤ 1000 := by omega
  have hxs : (tX bs p).1.size ≤ 256 := textO_small C.byt (countO_at C.byt s.at_ 256 0) _
  have hks : k ≤ la.size := by omega
  have hhd := head_run la k hks
  have hadd : ¬ 9223372036854775807 < (la.extract 0 k).size + (tX bs p).1.size := by rw [ByteArray.size_extract]; omega
  have hjs := join_size la k (tX bs p).1
  have hSz : (tS la bs p).size ≤ 1000 := by rw [hS, hjs]; omega
  have hjd : la.extract 0 k ++ (tX bs p).1 = tS la bs p := by rw [hS]; rfl
  have hcall := Lib.hid (fun W => alike_any la (tS la bs p) (by omega) (by omega) W)
  rw [hk] at hal
  unfold TextR
  rw [hE, hP]
  have hbi :  (256 : Int) < ((la.extract 0 k).size : Int) + ((tX bs p).1.size : Int) := by have h5 := congrArg ByteArray.size hjd; rw [ByteArray.size_append] at h5; omega
  have hSi : ((tS la bs p).size : Int) ≤ 1000 := by omega
  have hali : ¬ (k : Int) < ((alikeL (byt la) (byt (tS la bs p)) : Nat) : Int) := hal
  clear hE hP hin h1 hS hxs hjs hbig hno hal
  rw [hk] at hr1
  subst hc
  clear C s hla
  generalize tS la bs p = S at *
  generalize alikeL (byt la) (byt S) = q2 at *
  generalize tX bs p = X at *
  obtain ⟨x, q, y⟩ := X
  generalize tN bs p = N at *
  obtain ⟨n, p1, y1⟩ := N
  simp only at hok hk hr1 hr2
  subst hok hk
  generalize la.extract 0 k = la0 at *
  subst hjd

  go_enter Try.func30, Try.ntmps30
  go_wp2_with fail
  refine hr1.out.mono ?_
  rintro en w1 ⟨rfl, s1, b1⟩
  have k1 := s1.from_
  have k2 := s1.ptr
  have hr3 := Lib.hid (hr2.out w1 s1)
  have b1' := Lib.hid b1
  clear s1 b1 hr1 hr2
  go_wp2_with fail
  refine hr3.out.mono ?_
  rintro en w2 ⟨rfl, s2, b2⟩
  have b2' := Lib.hid (b1'.out.trans (b2.mono b1'.out.size))
  have k3 := s2.ptr
  have k4 := s2.from_
  have k5 := s2.free1
  have herr := Lib.hid (err_any r _ w2 s2.err)
  have s2' := Lib.hid s2
  clear s2 b2 b1' hr3 k0 k1 k2
  go_wp2_with fail
  refine herr.out.mono ?_
  rintro en w3 ⟨rfl, rfl⟩
  clear herr
  have s3' := Lib.hid (s2'.out.set C'.out p)
  have b3' := Lib.hid (b2'.out.setIn (p := ⟨h, 1, none⟩) (by simp) (.int .i64 (p : Nat)))
  have k6 := s3'.out.ptr
  clear s2' b2'
  go_wp2_with fail
  refine (hcall.out _).mono ?_
  rintro en w4 ⟨rfl, m4, rfl⟩
  have s4' := Lib.hid (s3'.out.drewN m4)
  have b4' := Lib.hid (b3'.out.drewN m4)
  have k7 := s4'.out.ptr
  clear s3' b3' k6 hcall
  have hf := Lib.hid (s4'.out.fail C'.out 3)
  go_wp2_with fail
  refine hf.out.mono ?_
  rintro en w5 ⟨rfl, s5, b5⟩
  have s5' := Lib.hid s5
  have k8 := s5.ptr
  have b5' := Lib.hid (b4'.out.trans (b5.mono b4'.out.size))
  clear hf s5 b5 s4' b4'
  go_wp2
  go_ret
  exact ⟨⟨_, rfl, hSz, fun _ => rfl⟩, by simpa [failO] using s5'.out, b5'.out⟩

set_option maxRecDepth 100000 in
set_option maxHeartbeats 4000000 in
theorem text_ftA0 (C : CtxR W0 h r a cap bs) (s : StR W0 h r a cap bs w p 0 f) (first : Bool) (la : ByteArray) (hla : la.size ≤ 1000) (hok : (tX bs p).2.2 = 0) (hno : ¬ (la.size : Int) < (tN bs p).1) (hc : first = false) (hlt : lt8 (byt la) (byt (tS la bs p)) = true) (hal : (tN bs p).1 < (alikeL (byt la) (byt (tS la bs p)) : Nat)) (hbig : ¬ 256 < (tS la bs p).size) :
    Calls Try.prog 30 #[.pointer (some ⟨h, 0, none⟩), .string la, .bool first] w (TextR first la W0 h r a cap bs p w) := by
  have k0 := s.ptr
  have hpl : (p : Int) ≤ 9223372036854775807 := by have := s.at_; have := C.len; unfold maxLen at this; omega
  have hr1 := Lib.hid (read_int C s 256 (by omega))
  have hr2 := Lib.hid (fun (w1 : World) (s1 : StR W0 h r a cap bs w1 (tN bs p).2.1 (tN bs p).2.2 p) => read_string C s1 256 (by omega))
  change Hid (∀ w1, StR W0 h r a cap bs w1 (tN bs p).2.1 (tN bs p).2.2 p → Calls Try.prog 50 _ w1 (StepR (.string (tX bs p).1) W0 h r a cap bs (tX bs p).2.1 (tX bs p).2.2 (tN bs p).2.1 w1)) at hr2
  change Hid (Calls _ _ _ _ (StepR (.int .i64 (tN bs p).1) W0 h r a cap bs (tN bs p).2.1 (tN bs p).2.2 p w)) at hr1
  have C' := Lib.hid C
  have h1 := textO_zero hok
  have hin := countO_in C.byt s.at_ (m := 256) (by omega) h1
  obtain ⟨k, hk⟩ : ∃ k : Nat, (tN bs p).1 = k := ⟨(tN bs p).1.toNat, by have : 0 ≤ (tN bs p).1 := hin.1; omega⟩
  have hk256 : k ≤ 256 := by have : (tN bs p).1 ≤ 256 := hin.2; omega
  have hP : tP bs p = p := by unfold tP; rw [if_neg (by rw [hok]; simp)]
  have hE : tE first la bs p = 50 := by unfold tE; rw [if_neg (by rw [hok]; simp), if_neg hno, if_pos (.inr hal)]
  have hS : tS la bs p = joinT la k (tX bs p).1 := by unfold tS; rw [hk]; rfl
  have hlai : (la.size : Int) ≤ 1000 := by omega
  have hxs : (tX bs p).1.size ≤ 256 := textO_small C.byt (countO_at C.byt s.at_ 256 0) _
  have hks : k ≤ la.size := by omega
  have hhd := head_run la k hks
  have hadd : ¬ 9223372036854775807 < (la.extract 0 k).size + (tX bs p).1.size := by rw [ByteArray.size_extract]; omega
  have hjs := join_size la k (tX bs p).1
  have hSz : (tS la bs p).size ≤ 1000 := by rw [hS, hjs]; omega
  have hjd : la.extract 0 k ++ (tX bs p).1 = tS la bs p := by rw [hS]; rfl
  obtain ⟨hc1, hc2⟩ := leq_no (x := tS la bs p) (y := la) hlt
  have hcall := Lib.hid (fun W => alike_any la (tS la bs p) (by omega) (by omega) W)
  rw [hk] at hal
  unfold TextR
  rw [hE, hP]
  have hbi : ¬ (256 : Int) < ((la.extract 0 k).size : Int) + ((tX bs p).1.size : Int) := by have h5 := congrArg ByteArray.size hjd; rw [ByteArray.size_append] at h5; omega
  have hSi : ((tS la bs p).size : Int) ≤ 1000 := by omega
  have hali :  (k : Int) < ((alikeL (byt la) (byt (tS la bs p)) : Nat) : Int) := hal
  clear hE hP hin h1 hS hxs hjs hbig hno hal
  rw [hk] at hr1
  subst hc
  clear C s hla
  generalize tS la bs p = S at *
  generalize alikeL (byt la) (byt S) = q2 at *
  generalize tX bs p = X at *
  obtain ⟨x, q, y⟩ := X
  generalize tN bs p = N at *
  obtain ⟨n, p1, y1⟩ := N
  simp only at hok hk hr1 hr2
  subst hok hk
  generalize la.extract 0 k = la0 at *
  subst hjd

  go_enter Try.func30, Try.ntmps30
  go_wp2_with fail
  refine hr1.out.mono ?_
  rintro en w1 ⟨rfl, s1, b1⟩
  have k1 := s1.from_
  have k2 := s1.ptr
  have hr3 := Lib.hid (hr2.out w1 s1)
  have b1' := Lib.hid b1
  clear s1 b1 hr1 hr2
  go_wp2_with fail
  refine hr3.out.mono ?_
  rintro en w2 ⟨rfl, s2, b2⟩
  have b2' := Lib.hid (b1'.out.trans (b2.mono b1'.out.size))
  have k3 := s2.ptr
  have k4 := s2.from_
  have k5 := s2.free1
  have herr := Lib.hid (err_any r _ w2 s2.err)
  have s2' := Lib.hid s2
  clear s2 b2 b1' hr3 k0 k1 k2
  go_wp2_with fail
  refine herr.out.mono ?_
  rintro en w3 ⟨rfl, rfl⟩
  clear herr
  have s3' := Lib.hid (s2'.out.set C'.out p)
  have b3' := Lib.hid (b2'.out.setIn (p := ⟨h, 1, none⟩) (by simp) (.int .i64 (p : Nat)))
  have k6 := s3'.out.ptr
  clear s2' b2'
  go_wp2_with fail
  refine (hcall.out _).mono ?_
  rintro en w4 ⟨rfl, m4, rfl⟩
  have s4' := Lib.hid (s3'.out.drewN m4)
  have b4' := Lib.hid (b3'.out.drewN m4)
  have k7 := s4'.out.ptr
  clear s3' b3' k6 hcall
  have hf := Lib.hid (s4'.out.fail C'.out 50)
  go_wp2_with fail
  refine hf.out.mono ?_
  rintro en w5 ⟨rfl, s5, b5⟩
  have s5' := Lib.hid s5
  have k8 := s5.ptr
  have b5' := Lib.hid (b4'.out.trans (b5.mono b4'.out.size))
  clear hf s5 b5 s4' b4'
  go_wp2
  go_ret
  exact ⟨⟨_, rfl, hSz, fun _ => rfl⟩, by simpa [failO] using s5'.out, b5'.out⟩

set_option maxRecDepth 100000 in
set_option maxHeartbeats 4000000 in
theorem text_ftA1 (C : CtxR W0 h r a cap bs) (s : StR W0 h r a cap bs w p 0 f) (first : Bool) (la : ByteArray) (hla : la.size ≤ 1000) (hok : (tX bs p).2.2 = 0) (hno : ¬ (la.size : Int) < (tN bs p).1) (hc : first = false) (hlt : lt8 (byt la) (byt (tS la bs p)) = true) (hal : (tN bs p).1 < (alikeL (byt la) (byt (tS la bs p)) : Nat)) (hbig : 256 < (tS la bs p).size) :
    Calls Try.prog 30 #[.pointer (some ⟨h, 0, none⟩), .string la, .bool first] w (TextR first la W0 h r a cap bs p w) := by
  have k0 := s.ptr
  have hpl : (p : Int) ≤ 9223372036854775807 := by have := s.at_; have := C.len; unfold maxLen at this; omega
  have hr1 := Lib.hid (read_int C s 256 (by omega))
  have hr2 := Lib.hid (fun (w1 : World) (s1 : StR W0 h r a cap bs w1 (tN bs p).2.1 (tN bs p).2.2 p) => read_string C s1 256 (by omega))
  change Hid (∀ w1, StR W0 h r a cap bs w1 (tN bs p).2.1 (tN bs p).2.2 p → Calls Try.prog 50 _ w1 (StepR (.string (tX bs p).1) W0 h r a cap bs (tX bs p).2.1 (tX bs p).2.2 (tN bs p).2.1 w1)) at hr2
  change Hid (Calls _ _ _ _ (StepR (.int .i64 (tN bs p).1) W0 h r a cap bs (tN bs p).2.1 (tN bs p).2.2 p w)) at hr1
  have C' := Lib.hid C
  have h1 := textO_zero hok
  have hin := countO_in C.byt s.at_ (m := 256) (by omega) h1
  obtain ⟨k, hk⟩ : ∃ k : Nat, (tN bs p).1 = k := ⟨(tN bs p).1.toNat, by have : 0 ≤ (tN bs p).1 := hin.1; omega⟩
  have hk256 : k ≤ 256 := by have : (tN bs p).1 ≤ 256 := hin.2; omega
  have hP : tP bs p = p := by unfold tP; rw [if_neg (by rw [hok]; simp)]
  have hE : tE first la bs p = 50 := by unfold tE; rw [if_neg (by rw [hok]; simp), if_neg hno, if_pos (.inr hal)]
  have hS : tS la bs p = joinT la k (tX bs p).1 := by unfold tS; rw [hk]; rfl
  have hlai : (la.size : Int) ≤ 1000 := by omega
  have hxs : (tX bs p).1.size ≤ 256 := textO_small C.byt (countO_at C.byt s.at_ 256 0) _
  have hks : k ≤ la.size := by omega
  have hhd := head_run la k hks
  have hadd : ¬ 9223372036854775807 < (la.extract 0 k).size + (tX bs p).1.size := by rw [ByteArray.size_extract]; omega
  have hjs := join_size la k (tX bs p).1
  have hSz : (tS la bs p).size ≤ 1000 := by rw [hS, hjs]; omega
  have hjd : la.extract 0 k ++ (tX bs p).1 = tS la bs p := by rw [hS]; rfl
  obtain ⟨hc1, hc2⟩ := leq_no (x := tS la bs p) (y := la) hlt
  have hcall := Lib.hid (fun W => alike_any la (tS la bs p) (by omega) (by omega) W)
  rw [hk] at hal
  unfold TextR
  rw [hE, hP]
  have hbi :  (256 : Int) < ((la.extract 0 k).size : Int) + ((tX bs p).1.size : Int) := by have h5 := congrArg ByteArray.size hjd; rw [ByteArray.size_append] at h5; omega
  have hSi : ((tS la bs p).size : Int) ≤ 1000 := by omega
  have hali :  (k : Int) < ((alikeL (byt la) (byt (tS la bs p)) : Nat) : Int) := hal
  clear hE hP hin h1 hS hxs hjs hbig hno hal
  rw [hk] at hr1
  subst hc
  clear C s hla
  generalize tS la bs p = S at *
  generalize alikeL (byt la) (byt S) = q2 at *
  generalize tX bs p = X at *
  obtain ⟨x, q, y⟩ := X
  generalize tN bs p = N at *
  obtain ⟨n, p1, y1⟩ := N
  simp only at hok hk hr1 hr2
  subst hok hk
  generalize la.extract 0 k = la0 at *
  subst hjd

  go_enter Try.func30, Try.ntmps30
  go_wp2_with fail
  refine hr1.out.mono ?_
  rintro en w1 ⟨rfl, s1, b1⟩
  have k1 := s1.from_
  have k2 := s1.ptr
  have hr3 := Lib.hid (hr2.out w1 s1)
  have b1' := Lib.hid b1
  clear s1 b1 hr1 hr2
  go_wp2_with fail
  refine hr3.out.mono ?_
  rintro en w2 ⟨rfl, s2, b2⟩
  have b2' := Lib.hid (b1'.out.trans (b2.mono b1'.out.size))
  have k3 := s2.ptr
  have k4 := s2.from_
  have k5 := s2.free1
  have herr := Lib.hid (err_any r _ w2 s2.err)
  have s2' := Lib.hid s2
  clear s2 b2 b1' hr3 k0 k1 k2
  go_wp2_with fail
  refine herr.out.mono ?_
  rintro en w3 ⟨rfl, rfl⟩
  clear herr
  have s3' := Lib.hid (s2'.out.set C'.out p)
  have b3' := Lib.hid (b2'.out.setIn (p := ⟨h, 1, none⟩) (by simp) (.int .i64 (p : Nat)))
  have k6 := s3'.out.ptr
  clear s2' b2'
  go_wp2_with fail
  refine (hcall.out _).mono ?_
  rintro en w4 ⟨rfl, m4, rfl⟩
  have s4' := Lib.hid (s3'.out.drewN m4)
  have b4' := Lib.hid (b3'.out.drewN m4)
  have k7 := s4'.out.ptr
  clear s3' b3' k6 hcall
  have hf := Lib.hid (s4'.out.fail C'.out 50)
  go_wp2_with fail
  refine hf.out.mono ?_
  rintro en w5 ⟨rfl, s5, b5⟩
  have s5' := Lib.hid s5
  have k8 := s5.ptr
  have b5' := Lib.hid (b4'.out.trans (b5.mono b4'.out.size))
  clear hf s5 b5 s4' b4'
  have hf := Lib.hid (s5'.out.fail C'.out 3)
  go_wp2_with fail
  refine hf.out.mono ?_
  rintro en w6 ⟨rfl, s6, b6⟩
  have s6' := Lib.hid s6
  have b6' := Lib.hid (b5'.out.trans (b6.mono b5'.out.size))
  clear hf s6 b6 s5' b5'
  go_wp2
  go_ret
  exact ⟨⟨_, rfl, hSz, fun _ => rfl⟩, by simpa [failO] using s6'.out, b6'.out⟩

set_option maxRecDepth 100000 in
set_option maxHeartbeats 4000000 in
theorem text_ftB0 (C : CtxR W0 h r a cap bs) (s : StR W0 h r a cap bs w p 0 f) (first : Bool) (la : ByteArray) (hla : la.size ≤ 1000) (hok : (tX bs p).2.2 = 0) (hno : ¬ (la.size : Int) < (tN bs p).1) (hc : first = false) (hlt : lt8 (byt la) (byt (tS la bs p)) = true) (hal : ¬ (tN bs p).1 < (alikeL (byt la) (byt (tS la bs p)) : Nat)) (hbig : ¬ 256 < (tS la bs p).size) :
    Calls Try.prog 30 #[.pointer (some ⟨h, 0, none⟩), .string la, .bool first] w (TextR first la W0 h r a cap bs p w) := by
  have k0 := s.ptr
  have hpl : (p : Int) ≤ 9223372036854775807 := by have := s.at_; have := C.len; unfold maxLen at this; omega
  have hr1 := Lib.hid (read_int C s 256 (by omega))
  have hr2 := Lib.hid (fun (w1 : World) (s1 : StR W0 h r a cap bs w1 (tN bs p).2.1 (tN bs p).2.2 p) => read_string C s1 256 (by omega))
  change Hid (∀ w1, StR W0 h r a cap bs w1 (tN bs p).2.1 (tN bs p).2.2 p → Calls Try.prog 50 _ w1 (StepR (.string (tX bs p).1) W0 h r a cap bs (tX bs p).2.1 (tX bs p).2.2 (tN bs p).2.1 w1)) at hr2
  change Hid (Calls _ _ _ _ (StepR (.int .i64 (tN bs p).1) W0 h r a cap bs (tN bs p).2.1 (tN bs p).2.2 p w)) at hr1
  have C' := Lib.hid C
  have h1 := textO_zero hok
  have hin := countO_in C.byt s.at_ (m := 256) (by omega) h1
  obtain ⟨k, hk⟩ : ∃ k : Nat, (tN bs p).1 = k := ⟨(tN bs p).1.toNat, by have : 0 ≤ (tN bs p).1 := hin.1; omega⟩
  have hk256 : k ≤ 256 := by have : (tN bs p).1 ≤ 256 := hin.2; omega
  have hP : tP bs p = p := by unfold tP; rw [if_neg (by rw [hok]; simp)]
  have hE : tE first la bs p = 0 := by unfold tE; rw [if_neg (by rw [hok]; simp), if_neg hno, if_neg (by rintro (h4 | h4); (rw [hc, hlt] at h4; simp at h4); exact hal h4), if_neg hbig]
  have hS : tS la bs p = joinT la k (tX bs p).1 := by unfold tS; rw [hk]; rfl
  have hlai : (la.size : Int) ≤ 1000 := by omega
  have hxs : (tX bs p).1.size ≤ 256 := textO_small C.byt (countO_at C.byt s.at_ 256 0) _
  have hks : k ≤ la.size := by omega
  have hhd := head_run la k hks
  have hadd : ¬ 9223372036854775807 < (la.extract 0 k).size + (tX bs p).1.size := by rw [ByteArray.size_extract]; omega
  have hjs := join_size la k (tX bs p).1
  have hSz : (tS la bs p).size ≤ 1000 := by rw [hS, hjs]; omega
  have hjd : la.extract 0 k ++ (tX bs p).1 = tS la bs p := by rw [hS]; rfl
  obtain ⟨hc1, hc2⟩ := leq_no (x := tS la bs p) (y := la) hlt
  have hcall := Lib.hid (fun W => alike_any la (tS la bs p) (by omega) (by omega) W)
  rw [hk] at hal
  unfold TextR
  rw [hE, hP]
  have hbi : ¬ (256 : Int) < ((la.extract 0 k).size : Int) + ((tX bs p).1.size : Int) := by have h5 := congrArg ByteArray.size hjd; rw [ByteArray.size_append] at h5; omega
  have hSi : ((tS la bs p).size : Int) ≤ 1000 := by omega
  have hali : ¬ (k : Int) < ((alikeL (byt la) (byt (tS la bs p)) : Nat) : Int) := hal
  clear hE hP hin h1 hS hxs hjs hbig hno hal
  rw [hk] at hr1
  subst hc
  clear C s hla
  generalize tS la bs p = S at *
  generalize alikeL (byt la) (byt S) = q2 at *
  generalize tX bs p = X at *
  obtain ⟨x, q, y⟩ := X
  generalize tN bs p = N at *
  obtain ⟨n, p1, y1⟩ := N
  simp only at hok hk hr1 hr2
  subst hok hk
  generalize la.extract 0 k = la0 at *
  subst hjd

  go_enter Try.func30, Try.ntmps30
  go_wp2_with fail
  refine hr1.out.mono ?_
  rintro en w1 ⟨rfl, s1, b1⟩
  have k1 := s1.from_
  have k2 := s1.ptr
  have hr3 := Lib.hid (hr2.out w1 s1)
  have b1' := Lib.hid b1
  clear s1 b1 hr1 hr2
  go_wp2_with fail
  refine hr3.out.mono ?_
  rintro en w2 ⟨rfl, s2, b2⟩
  have b2' := Lib.hid (b1'.out.trans (b2.mono b1'.out.size))
  have k3 := s2.ptr
  have k4 := s2.from_
  have k5 := s2.free1
  have herr := Lib.hid (err_any r _ w2 s2.err)
  have s2' := Lib.hid s2
  clear s2 b2 b1' hr3 k0 k1 k2
  go_wp2_with fail
  refine herr.out.mono ?_
  rintro en w3 ⟨rfl, rfl⟩
  clear herr
  have s3' := Lib.hid (s2'.out.set C'.out p)
  have b3' := Lib.hid (b2'.out.setIn (p := ⟨h, 1, none⟩) (by simp) (.int .i64 (p : Nat)))
  have k6 := s3'.out.ptr
  clear s2' b2'
  go_wp2_with fail
  refine (hcall.out _).mono ?_
  rintro en w4 ⟨rfl, m4, rfl⟩
  have s4' := Lib.hid (s3'.out.drewN m4)
  have b4' := Lib.hid (b3'.out.drewN m4)
  have k7 := s4'.out.ptr
  clear s3' b3' k6 hcall
  go_wp2
  go_ret
  exact ⟨⟨_, rfl, hSz, fun _ => rfl⟩, by simpa [failO] using s4'.out, b4'.out⟩

set_option maxRecDepth 100000 in
set_option maxHeartbeats 4000000 in
theorem text_ftB1 (C : CtxR W0 h r a cap bs) (s : StR W0 h r a cap bs w p 0 f) (first : Bool) (la : ByteArray) (hla : la.size ≤ 1000) (hok : (tX bs p).2.2 = 0) (hno : ¬ (la.size : Int) < (tN bs p).1) (hc : first = false) (hlt : lt8 (byt la) (byt (tS la bs p)) = true) (hal : ¬ (tN bs p).1 < (alikeL (byt la) (byt (tS la bs p)) : Nat)) (hbig : 256 < (tS la bs p).size) :
    Calls Try.prog 30 #[.pointer (some ⟨h, 0, none⟩), .string la, .bool first] w (TextR first la W0 h r a cap bs p w) := by
  have k0 := s.ptr
  have hpl : (p : Int) ≤ 9223372036854775807 := by have := s.at_; have := C.len; unfold maxLen at this; omega
  have hr1 := Lib.hid (read_int C s 256 (by omega))
  have hr2 := Lib.hid (fun (w1 : World) (s1 : StR W0 h r a cap bs w1 (tN bs p).2.1 (tN bs p).2.2 p) => read_string C s1 256 (by omega))
  change Hid (∀ w1, StR W0 h r a cap bs w1 (tN bs p).2.1 (tN bs p).2.2 p → Calls Try.prog 50 _ w1 (StepR (.string (tX bs p).1) W0 h r a cap bs (tX bs p).2.1 (tX bs p).2.2 (tN bs p).2.1 w1)) at hr2
  change Hid (Calls _ _ _ _ (StepR (.int .i64 (tN bs p).1) W0 h r a cap bs (tN bs p).2.1 (tN bs p).2.2 p w)) at hr1
  have C' := Lib.hid C
  have h1 := textO_zero hok
  have hin := countO_in C.byt s.at_ (m := 256) (by omega) h1
  obtain ⟨k, hk⟩ : ∃ k : Nat, (tN bs p).1 = k := ⟨(tN bs p).1.toNat, by have : 0 ≤ (tN bs p).1 := hin.1; omega⟩
  have hk256 : k ≤ 256 := by have : (tN bs p).1 ≤ 256 := hin.2; omega
  have hP : tP bs p = p := by unfold tP; rw [if_neg (by rw [hok]; simp)]
  have hE : tE first la bs p = 3 := by unfold tE; rw [if_neg (by rw [hok]; simp), if_neg hno, if_neg (by rintro (h4 | h4); (rw [hc, hlt] at h4; simp at h4); exact hal h4), if_pos hbig]
  have hS : tS la bs p = joinT la k (tX bs p).1 := by unfold tS; rw [hk]; rfl
  have hlai : (la.size : Int) ≤ 1000 := by omega
  have hxs : (tX bs p).1.size ≤ 256 := textO_small C.byt (countO_at C.byt s.at_ 256 0) _
  have hks : k ≤ la.size := by omega
  have hhd := head_run la k hks
  have hadd : ¬ 9223372036854775807 < (la.extract 0 k).size + (tX bs p).1.size := by rw [ByteArray.size_extract]; omega
  have hjs := join_size la k (tX bs p).1
  have hSz : (tS la bs p).size ≤ 1000 := by rw [hS, hjs]; omega
  have hjd : la.extract 0 k ++ (tX bs p).1 = tS la bs p := by rw [hS]; rfl
  obtain ⟨hc1, hc2⟩ := leq_no (x := tS la bs p) (y := la) hlt
  have hcall := Lib.hid (fun W => alike_any la (tS la bs p) (by omega) (by omega) W)
  rw [hk] at hal
  unfold TextR
  rw [hE, hP]
  have hbi :  (256 : Int) < ((la.extract 0 k).size : Int) + ((tX bs p).1.size : Int) := by have h5 := congrArg ByteArray.size hjd; rw [ByteArray.size_append] at h5; omega
  have hSi : ((tS la bs p).size : Int) ≤ 1000 := by omega
  have hali : ¬ (k : Int) < ((alikeL (byt la) (byt (tS la bs p)) : Nat) : Int) := hal
  clear hE hP hin h1 hS hxs hjs hbig hno hal
  rw [hk] at hr1
  subst hc
  clear C s hla
  generalize tS la bs p = S at *
  generalize alikeL (byt la) (byt S) = q2 at *
  generalize tX bs p = X at *
  obtain ⟨x, q, y⟩ := X
  generalize tN bs p = N at *
  obtain ⟨n, p1, y1⟩ := N
  simp only at hok hk hr1 hr2
  subst hok hk
  generalize la.extract 0 k = la0 at *
  subst hjd

  go_enter Try.func30, Try.ntmps30
  go_wp2_with fail
  refine hr1.out.mono ?_
  rintro en w1 ⟨rfl, s1, b1⟩
  have k1 := s1.from_
  have k2 := s1.ptr
  have hr3 := Lib.hid (hr2.out w1 s1)
  have b1' := Lib.hid b1
  clear s1 b1 hr1 hr2
  go_wp2_with fail
  refine hr3.out.mono ?_
  rintro en w2 ⟨rfl, s2, b2⟩
  have b2' := Lib.hid (b1'.out.trans (b2.mono b1'.out.size))
  have k3 := s2.ptr
  have k4 := s2.from_
  have k5 := s2.free1
  have herr := Lib.hid (err_any r _ w2 s2.err)
  have s2' := Lib.hid s2
  clear s2 b2 b1' hr3 k0 k1 k2
  go_wp2_with fail
  refine herr.out.mono ?_
  rintro en w3 ⟨rfl, rfl⟩
  clear herr
  have s3' := Lib.hid (s2'.out.set C'.out p)
  have b3' := Lib.hid (b2'.out.setIn (p := ⟨h, 1, none⟩) (by simp) (.int .i64 (p : Nat)))
  have k6 := s3'.out.ptr
  clear s2' b2'
  go_wp2_with fail
  refine (hcall.out _).mono ?_
  rintro en w4 ⟨rfl, m4, rfl⟩
  have s4' := Lib.hid (s3'.out.drewN m4)
  have b4' := Lib.hid (b3'.out.drewN m4)
  have k7 := s4'.out.ptr
  clear s3' b3' k6 hcall
  have hf := Lib.hid (s4'.out.fail C'.out 3)
  go_wp2_with fail
  refine hf.out.mono ?_
  rintro en w5 ⟨rfl, s5, b5⟩
  have s5' := Lib.hid s5
  have k8 := s5.ptr
  have b5' := Lib.hid (b4'.out.trans (b5.mono b4'.out.size))
  clear hf s5 b5 s4' b4'
  go_wp2
  go_ret
  exact ⟨⟨_, rfl, hSz, fun _ => rfl⟩, by simpa [failO] using s5'.out, b5'.out⟩

theorem text_any' (C : CtxR W0 h r a cap bs) (s : StR W0 h r a cap bs w p 0 f) (first : Bool) (la : ByteArray) (hla : la.size ≤ 1000) :
    Calls Try.prog 30 #[.pointer (some ⟨h, 0, none⟩), .string la, .bool first] w (TextR first la W0 h r a cap bs p w) := by
  by_cases hok : (tX bs p).2.2 = 0
  · by_cases hno : (la.size : Int) < (tN bs p).1
    · exact text_more C s first la hla hok hno
    · by_cases hbig : 256 < (tS la bs p).size
      · by_cases hal : (tN bs p).1 < (alikeL (byt la) (byt (tS la bs p)) : Nat)
        · cases hc : first
          · cases hlt : lt8 (byt la) (byt (tS la bs p))
            · exact text_ff1 C s false la hla hok hno rfl hlt hbig
            · exact text_ftA1 C s false la hla hok hno rfl hlt hal hbig
          · exact text_ttA1 C s true la hla hok hno rfl hal hbig
        · cases hc : first
          · cases hlt : lt8 (byt la) (byt (tS la bs p))
            · exact text_ff1 C s false la hla hok hno rfl hlt hbig
            · exact text_ftB1 C s false la hla hok hno rfl hlt hal hbig
          · exact text_ttB1 C s true la hla hok hno rfl hal hbig
      · by_cases hal : (tN bs p).1 < (alikeL (byt la) (byt (tS la bs p)) : Nat)
        · cases hc : first
          · cases hlt : lt8 (byt la) (byt (tS la bs p))
            · exact text_ff0 C s false la hla hok hno rfl hlt hbig
            · exact text_ftA0 C s false la hla hok hno rfl hlt hal hbig
          · exact text_ttA0 C s true la hla hok hno rfl hal hbig
        · cases hc : first
          · cases hlt : lt8 (byt la) (byt (tS la bs p))
            · exact text_ff0 C s false la hla hok hno rfl hlt hbig
            · exact text_ftB0 C s false la hla hok hno rfl hlt hal hbig
          · exact text_ttB0 C s true la hla hok hno rfl hal hbig
  · exact text_bad C s first la hla hok
end Go.Proofs.Ytkfgfbdlbiahkaa
