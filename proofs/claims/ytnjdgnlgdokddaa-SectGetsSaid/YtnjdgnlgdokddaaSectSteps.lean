/- The steps by which sect.one reads a section: its closures. -/
import Derived.Test.YtnjdgnlgdokddaaSectFind
import Derived.Test.YtnjdgnlgdokddaaCurMeth
import Derived.Test.YtnjdgnlgdokddaaCurMore
namespace Go.Proofs.Ytnjdgnlgdokddaa
open Go.RowKit
set_option linter.unusedVariables false
set_option linter.unusedSimpArgs false

/-- Where the variables of sect.one lie that are written: the reader, the section, the sum, the size. -/
def XS (r hs hw hz : Nat) : List Nat := [r, hs, hw, hz]
structure Ctx (W0 : World) (hr hs hw hz r : Nat) (a : Option Addr) (cap : Nat) (bs : List Int) : Prop where
  see : SeesE (XS r hs hw hz) .u8 W0.heap.size W0 a bs
  box : W0.cell? ⟨hr, 0, none⟩ = some (.pointer (some ⟨r, 0, none⟩))
  nbox : hr ∉ XS r hs hw hz
  lt : ∀ x ∈ XS r hs hw hz, x < W0.heap.size
  d1 : r ≠ hs
  d2 : r ≠ hw
  d3 : r ≠ hz
  d4 : hs ≠ hw
  d5 : hs ≠ hz
  d6 : hw ≠ hz
  byt : Bs bs
  len : bs.length ≤ maxLen
  capl : bs.length ≤ cap
structure St (W0 : World) (hs hw hz r : Nat) (a : Option Addr) (cap : Nat) (bs : List Int) (w : World) (p : Nat) (e : Int) (t v x z : Value) : Prop where
  rd : Holds w r 91 #[.slice a bs.length cap, .int .i64 p, .int .i64 e]
  sc : Holds w hs 39 #[t, v]
  wd : Holds w hw 41 #[x]
  sz : Holds w hz 3 #[z]
  bl : BelowE (XS r hs hw hz) W0.heap.size W0 w
variable {W0 w w1 : World} {hr hs hw hz r : Nat} {a : Option Addr} {cap : Nat} {bs : List Int} {p : Nat} {e : Int} {t v x z : Value}
theorem St.rdr (h : St W0 hs hw hz r a cap bs w p e t v x z) (C : Ctx W0 hr hs hw hz r a cap bs) (hp : p ≤ bs.length) : Rd w r a cap bs p e :=
  ⟨h.rd, ((C.see.belowE h.bl).mono h.bl.size).fewer (by intro y hy _; simp at hy; subst hy; simp [XS]), C.byt, C.len, C.capl, hp⟩
theorem St.hbox (h : St W0 hs hw hz r a cap bs w p e t v x z) (C : Ctx W0 hr hs hw hz r a cap bs) : w.cell? ⟨hr, 0, none⟩ = some (.pointer (some ⟨r, 0, none⟩)) :=
  (h.bl.cell (p := ⟨hr, 0, none⟩) (World.block_lt_of_cell? _ _ C.box) C.nbox).trans C.box
theorem St.moved {q : Nat} {y : Int} (h : St W0 hs hw hz r a cap bs w p e t v x z) (C : Ctx W0 hr hs hw hz r a cap bs) (hm : Moved r a cap bs q y w w1) : St W0 hs hw hz r a cap bs w1 q y t v x z :=
  ⟨hm.1, h.sc.belowE hm.2 h.sc.lt (by simpa using C.d1.symm), h.wd.belowE hm.2 h.wd.lt (by simpa using C.d2.symm), h.sz.belowE hm.2 h.sz.lt (by simpa using C.d3.symm), h.bl.trans ((hm.2.mono h.bl.size).wider (by simp [XS]))⟩
theorem St.made (h : St W0 hs hw hz r a cap bs w p e t v x z) (hb : Below w.heap.size w w1) : St W0 hs hw hz r a cap bs w1 p e t v x z :=
  ⟨h.rd.below hb h.rd.lt, h.sc.below hb h.sc.lt, h.wd.below hb h.wd.lt, h.sz.below hb h.sz.lt, h.bl.trans ((BelowE.of hb).mono h.bl.size)⟩
theorem St.setT (h : St W0 hs hw hz r a cap bs w p e t v x z) (C : Ctx W0 hr hs hw hz r a cap bs) (u : Value) : St W0 hs hw hz r a cap bs (w.setCell ⟨hs, 0, none⟩ u) p e u v x z :=
  ⟨h.rd.far (p := ⟨hs, 0, none⟩) C.d1 _, by have := h.sc.set 0 u; simpa using this, h.wd.far (p := ⟨hs, 0, none⟩) C.d4.symm _, h.sz.far (p := ⟨hs, 0, none⟩) C.d5.symm _, h.bl.setIn (p := ⟨hs, 0, none⟩) (by simp [XS]) _⟩
theorem St.setV (h : St W0 hs hw hz r a cap bs w p e t v x z) (C : Ctx W0 hr hs hw hz r a cap bs) (u : Value) : St W0 hs hw hz r a cap bs (w.setCell ⟨hs, 1, none⟩ u) p e t u x z :=
  ⟨h.rd.far (p := ⟨hs, 1, none⟩) C.d1 _, by have := h.sc.set 1 u; simpa using this, h.wd.far (p := ⟨hs, 1, none⟩) C.d4.symm _, h.sz.far (p := ⟨hs, 1, none⟩) C.d5.symm _, h.bl.setIn (p := ⟨hs, 1, none⟩) (by simp [XS]) _⟩
theorem St.setX (h : St W0 hs hw hz r a cap bs w p e t v x z) (C : Ctx W0 hr hs hw hz r a cap bs) (u : Value) : St W0 hs hw hz r a cap bs (w.setCell ⟨hw, 0, none⟩ u) p e t v u z :=
  ⟨h.rd.far (p := ⟨hw, 0, none⟩) C.d2 _, h.sc.far (p := ⟨hw, 0, none⟩) C.d4 _, by have := h.wd.set 0 u; simpa using this, h.sz.far (p := ⟨hw, 0, none⟩) C.d6.symm _, h.bl.setIn (p := ⟨hw, 0, none⟩) (by simp [XS]) _⟩
theorem St.setZ (h : St W0 hs hw hz r a cap bs w p e t v x z) (C : Ctx W0 hr hs hw hz r a cap bs) (u : Value) : St W0 hs hw hz r a cap bs (w.setCell ⟨hz, 0, none⟩ u) p e t v x u :=
  ⟨h.rd.far (p := ⟨hz, 0, none⟩) C.d3 _, h.sc.far (p := ⟨hz, 0, none⟩) C.d5 _, h.wd.far (p := ⟨hz, 0, none⟩) C.d6 _, by have := h.sz.set 0 u; simpa using this, h.bl.setIn (p := ⟨hz, 0, none⟩) (by simp [XS]) _⟩
theorem St.err (h : St W0 hs hw hz r a cap bs w p e t v x z) : w.cell? ⟨r, 2, none⟩ = some (.int .i64 e) := by have := h.rd.cell 2; simpa using this
theorem St.at1 (h : St W0 hs hw hz r a cap bs w p e t v x z) : w.cell? ⟨r, 1, none⟩ = some (.int .i64 p) := by have := h.rd.cell 1; simpa using this

/-- What a step leaves. -/
def StepTo (W0 : World) (hs hw hz r : Nat) (a : Option Addr) (cap : Nat) (bs : List Int) (q : Nat) (y : Int) (t v x z : Value) (w : World) (en : Ending) (w' : World) : Prop :=
  en = .returned (.int .i64 y) ∧ St W0 hs hw hz r a cap bs w' q y t v x z ∧ BelowE (XS r hs hw hz) w.heap.size w w'
theorem stepA_any (C : Ctx W0 hr hs hw hz r a cap bs) (h : St W0 hs hw hz r a cap bs w 0 0 t v x z) :
    Calls Try.prog 49 #[.pointer (some ⟨hr, 0, none⟩), .pointer (some ⟨hs, 0, none⟩)] w (StepTo W0 hs hw hz r a cap bs (byteO bs 0 0).2.1 (byteO bs 0 0).2.2 (.int .i64 (byteO bs 0 0).1) v x z w) := by
  have hc := Lib.hid (byte_any r a cap bs 0 0 w (h.rdr C (Nat.zero_le _)))
  have kr := h.hbox C
  have h' := Lib.hid h
  have C' := Lib.hid C
  clear h C
  generalize (byteO bs 0 0).1 = b1 at *
  generalize (byteO bs 0 0).2.1 = p1 at *
  generalize (byteO bs 0 0).2.2 = e1 at *
  go_enter Try.func49, Try.ntmps49
  go_wp2_with fail
  refine hc.out.mono ?_
  rintro en w1 ⟨rfl, hm⟩
  have s1 := h'.out.moved C'.out hm
  have s2 := s1.setT C'.out (.int .i64 b1)
  have q1 := s1.sc.cell 0
  have q2 := s1.sc.free 0
  have q3 := s2.hbox C'.out
  have herr := Lib.hid (err_any r e1 _ s2.err)
  have hfin : Hid (StepTo W0 hs hw hz r a cap bs p1 e1 (.int .i64 b1) v x z w (.returned (.int .i64 e1)) (w1.setCell ⟨hs, 0, none⟩ (.int .i64 b1))) := Lib.hid ⟨rfl, s2, (hm.2.wider (by simp [XS])).setIn (p := ⟨hs, 0, none⟩) (by simp [XS]) _⟩
  simp at q1
  have kr1 := s1.hbox C'.out
  clear s1 s2 hm hc
  go_wp2_with fail
  refine herr.out.mono ?_
  rintro en w2 ⟨rfl, rfl⟩
  go_wp2
  go_ret
  exact hfin.out

theorem stepC_any (C : Ctx W0 hr hs hw hz r a cap bs) (hp : p ≤ bs.length) (h : St W0 hs hw hz r a cap bs w p 0 t v x z) :
    Calls Try.prog 55 #[.pointer (some ⟨hr, 0, none⟩), .pointer (some ⟨hw, 0, none⟩)] w (StepTo W0 hs hw hz r a cap bs (wordO bs p 0).2.1 (wordO bs p 0).2.2 t v (.int .u32 (wordO bs p 0).1) z w) := by
  have hc := Lib.hid (word_any r a cap bs p 0 w (h.rdr C hp))
  have kr := h.hbox C
  have h' := Lib.hid h
  have C' := Lib.hid C
  clear h C
  generalize (wordO bs p 0).1 = b1 at *
  generalize (wordO bs p 0).2.1 = p1 at *
  generalize (wordO bs p 0).2.2 = e1 at *
  go_enter Try.func55, Try.ntmps55
  go_wp2_with fail
  refine hc.out.mono ?_
  rintro en w1 ⟨rfl, hm⟩
  have s1 := h'.out.moved C'.out hm
  have s2 := s1.setX C'.out (.int .u32 b1)
  have q1 := s1.wd.cell 0
  have q2 := s1.wd.free 0
  have q3 := s2.hbox C'.out
  have herr := Lib.hid (err_any r e1 _ s2.err)
  have hfin : Hid (StepTo W0 hs hw hz r a cap bs p1 e1 t v (.int .u32 b1) z w (.returned (.int .i64 e1)) (w1.setCell ⟨hw, 0, none⟩ (.int .u32 b1))) := Lib.hid ⟨rfl, s2, (hm.2.wider (by simp [XS])).setIn (p := ⟨hw, 0, none⟩) (by simp [XS]) _⟩
  simp at q1
  have kr1 := s1.hbox C'.out
  clear s1 s2 hm hc
  go_wp2_with fail
  refine herr.out.mono ?_
  rintro en w2 ⟨rfl, rfl⟩
  go_wp2
  go_ret
  exact hfin.out

/-- The body is read: it lies in new memory. -/
def StepB (W0 : World) (hs hw hz r : Nat) (a : Option Addr) (cap : Nat) (bs : List Int) (s : ByteArray) (q : Nat) (y : Int) (t x : Value) (w : World) (en : Ending) (w' : World) : Prop :=
  en = .returned (.int .i64 y) ∧ ∃ (g c : Nat), St W0 hs hw hz r a cap bs w' q y t (.slice (some ⟨g, 0, none⟩) s.size c) x (.int .i64 q) ∧ BelowE (XS r hs hw hz) w.heap.size w w' ∧ w.heap.size ≤ g ∧ s.size ≤ c ∧ Sees .u8 w'.heap.size w' (some ⟨g, 0, none⟩) (codes s)
theorem sees_far {w : World} {B g : Nat} {l : List Int} {q : Addr} {u : Value} (h : Sees .u8 B w (some ⟨g, 0, none⟩) l) (hq : g ≠ q.block) : Sees .u8 B (w.setCell q u) (some ⟨g, 0, none⟩) l := by
  rcases h with h | ⟨b, off, e, hB, hc⟩
  · exact .inl h
  · refine .inr ⟨b, off, e, hB, fun i hi => ?_⟩
    rw [← hc i hi]
    have hb : b = g := by injection e with e; injection e with e; exact e.symm
    subst hb
    have : BelowE [q.block] (max (b + 1) (q.block + 1)) w (w.setCell q u) := (BelowE.refl _ _ _).setIn (by simp) _
    exact this.cell (p := ⟨b, off + i, none⟩) (by simp; omega) (by simpa using hq)

set_option maxRecDepth 100000 in
set_option maxHeartbeats 1000000 in
theorem stepB_any (C : Ctx W0 hr hs hw hz r a cap bs) (hp : p ≤ bs.length) (h : St W0 hs hw hz r a cap bs w p 0 t v x z) :
    Calls Try.prog 52 #[.pointer (some ⟨hr, 0, none⟩), .pointer (some ⟨hs, 0, none⟩), .pointer (some ⟨hz, 0, none⟩)] w (StepB W0 hs hw hz r a cap bs (textO 1048576 bs p 0).1 (textO 1048576 bs p 0).2.1 (textO 1048576 bs p 0).2.2 t x w) := by
  have hc := Lib.hid (text_any r a cap bs p 0 1048576 (by omega) w (h.rdr C hp))
  have hcv := Lib.hid (fun (s : ByteArray) (W : World) => run_bytes_sees (P := Try.prog) W 9 25 5 s Try.underlying9 Try.underlying25 Try.underlying5)
  have kr := h.hbox C
  have h' := Lib.hid h
  have C' := Lib.hid C
  clear h C
  generalize (textO 1048576 bs p 0).1 = sx at *
  generalize (textO 1048576 bs p 0).2.1 = p1 at *
  generalize (textO 1048576 bs p 0).2.2 = e1 at *
  go_enter Try.func52, Try.ntmps52
  go_wp2_with fail
  refine hc.out.mono ?_
  rintro en w1 ⟨rfl, hm⟩
  obtain ⟨c, w2, hrun, hcap, hse, hb2, hsz2⟩ := hcv.out sx w1
  have s1 := h'.out.moved C'.out hm
  have s2 := s1.made hb2
  have s3 := s2.setV C'.out (.slice (some ⟨w1.heap.size, 0, none⟩) sx.size c)
  have s4 := s3.setZ C'.out (.int .i64 p1)
  have q1 := s2.sc.cell 1
  have q2 := s2.sc.free 1
  have q3 := s3.hbox C'.out
  have q4 := s3.sz.cell 0
  have q5 := s3.sz.free 0
  have q6 := s4.hbox C'.out
  have hat := Lib.hid (at_any r p1 _ s3.at1)
  have herr := Lib.hid (err_any r e1 _ s4.err)
  have lhs : hs < w1.heap.size := s1.sc.lt
  have lhz : hz < w1.heap.size := s1.sz.lt
  have hfin : Hid (StepB W0 hs hw hz r a cap bs sx p1 e1 t x w (.returned (.int .i64 e1)) ((w2.setCell ⟨hs, 1, none⟩ (.slice (some ⟨w1.heap.size, 0, none⟩) sx.size c)).setCell ⟨hz, 0, none⟩ (.int .i64 p1))) := Lib.hid (by
    refine ⟨rfl, w1.heap.size, c, s4, ?_, hm.2.size, hcap, ?_⟩
    · have e0 := hm.2.wider (Y := XS r hs hw hz) (by simp [XS])
      have e2 := e0.trans ((BelowE.of hb2).mono hm.2.size)
      exact (e2.setIn (p := ⟨hs, 1, none⟩) (by simp [XS]) _).setIn (p := ⟨hz, 0, none⟩) (by simp [XS]) _
    · have f1 := sees_far (q := ⟨hs, 1, none⟩) (u := .slice (some ⟨w1.heap.size, 0, none⟩) sx.size c) hse (by simp; omega)
      have f2 := sees_far (q := ⟨hz, 0, none⟩) (u := .int .i64 p1) f1 (by simp; omega)
      simpa [World.setCell] using f2)
  simp at q1 q4
  have kr1 := s2.hbox C'.out
  have hsz2' := Lib.hid hsz2
  clear s1 s2 s3 s4 hm hc hse hb2 hsz2 hcap lhs lhz
  go_wp2_with fail
  refine hat.out.mono ?_
  rintro en w3 ⟨rfl, rfl⟩
  clear hat
  go_wp2_with fail
  refine herr.out.mono ?_
  rintro en w4 ⟨rfl, rfl⟩
  go_wp2
  go_ret
  exact hfin.out

theorem unless_t (y : Int) (w : World) : Calls Try.prog 58 #[.bool true, .int .i64 y] w fun e w' => e = .returned (.int .i64 0) ∧ w = w' := unless_any true y w
theorem unless_f (y : Int) (w : World) : Calls Try.prog 58 #[.bool false, .int .i64 y] w fun e w' => e = .returned (.int .i64 y) ∧ w = w' := unless_any false y w
/-- What only reads and draws. -/
def Reads (y : Int) (w : World) (en : Ending) (w' : World) : Prop := en = .returned (.int .i64 y) ∧ ∃ m, w' = w.drewN m
set_option maxRecDepth 100000 in
theorem stepD_any (hb : Nat) (B : List Int) (aB : Option Addr) (nB cB q : Nat) (X : Int) (hn : nB = B.length) (hq : q ≤ nB) (hnc : nB ≤ cB) (hB : Bs B) (hl : B.length ≤ 100000000)
    (w : World) (hse : Sees .u8 w.heap.size w aB B) (kb : w.cell? ⟨hb, 0, none⟩ = some (.slice aB nB cB)) (kz : w.cell? ⟨hz, 0, none⟩ = some (.int .i64 (q : Int))) (kx : w.cell? ⟨hw, 0, none⟩ = some (.int .u32 X)) :
    Calls Try.prog 57 #[.pointer (some ⟨hb, 0, none⟩), .pointer (some ⟨hz, 0, none⟩), .pointer (some ⟨hw, 0, none⟩)] w (Reads (if ((csum 0 (B.take q) : Nat) : Int) = X then 0 else 42) w) := by
  have hwh := Lib.hid (fun n => whole_i X aB (B.take q) q cB (by simp; omega) w.heap.size (w.drewN n) (by simp [maxLen]; omega) (hB.take q) ((hse.take q).drewN n) _ rfl)
  have hif : (if ((csum 0 (B.take q) : Nat) : Int) = X then (0 : Int) else 42) = if (((csum 0 (B.take q) : Nat) : Int) == X) = true then 0 else 42 := by simp
  rw [hif]
  have hqc : q ≤ cB := by omega
  have hqi : (q : Int) ≤ 100000000 := by omega
  clear hn hq hnc hB hl hse hif
  generalize (((csum 0 (B.take q) : Nat) : Int) == X) = bb at *
  cases bb
  · have hun := Lib.hid (fun n => unless_f 42 (w.drewN n))
    rw [if_neg (by simp)]
    go_enter Try.func57, Try.ntmps57
    go_wp2
    go_quiet (first | (go_at_call 59; exact quiet_mine (hwh.out _)) | (go_at_call 58; exact quiet_mine (hun.out _)))
    go_wp2
    go_ret
    exact ⟨rfl, _, rfl⟩
  · have hun := Lib.hid (fun n => unless_t 42 (w.drewN n))
    rw [if_pos rfl]
    go_enter Try.func57, Try.ntmps57
    go_wp2
    go_quiet (first | (go_at_call 59; exact quiet_mine (hwh.out _)) | (go_at_call 58; exact quiet_mine (hun.out _)))
    go_wp2
    go_ret
    exact ⟨rfl, _, rfl⟩
set_option maxRecDepth 100000 in
theorem stepE_any (hl : Nat) (l : List Sc) (rl : Option Addr) (n c : Nat) (hn : n = l.length) (hll : l.length ≤ 1000) (tg : Int) (v0 : Value)
    (w : World) (h : SecS w.heap.size w rl l) (kl : w.cell? ⟨hl, 0, none⟩ = some (.slice rl n c)) (kt : w.cell? ⟨hs, 0, none⟩ = some (.int .i64 tg)) :
    Calls Try.prog 60 #[.pointer (some ⟨hl, 0, none⟩), .pointer (some ⟨hs, 0, none⟩)] w (Reads (if lastTag l < tg ∧ tg ≤ 255 then 0 else 41) w) := by
  have htg := Lib.hid (fun m => tagOf_any rl l n c w.heap.size hn hll (w.drewN m) (h.below ⟨rfl, rfl, rfl, Nat.le_refl _, fun _ _ => rfl⟩))
  have hfo := Lib.hid (fun m => follows_any (lastTag l) tg (w.drewN m))
  have hif : (if lastTag l < tg ∧ tg ≤ 255 then (0 : Int) else 41) = if (decide (lastTag l < tg) && decide (tg ≤ 255)) = true then 0 else 41 := by simp
  rw [hif]
  clear hn hll h hif
  generalize (decide (lastTag l < tg) && decide (tg ≤ 255)) = bb at *
  generalize lastTag l = lt at *
  cases bb
  · have hun := Lib.hid (fun n => unless_f 41 (w.drewN n))
    rw [if_neg (by simp)]
    go_enter Try.func60, Try.ntmps60
    go_wp2
    go_quiet (first | (go_at_call 61; exact quiet_mine (htg.out _)) | (go_at_call 43; exact quiet_mine (hfo.out _)) | (go_at_call 58; exact quiet_mine (hun.out _)))
    go_wp2
    go_ret
    exact ⟨rfl, _, rfl⟩
  · have hun := Lib.hid (fun n => unless_t 41 (w.drewN n))
    rw [if_pos rfl]
    go_enter Try.func60, Try.ntmps60
    go_wp2
    go_quiet (first | (go_at_call 61; exact quiet_mine (htg.out _)) | (go_at_call 43; exact quiet_mine (hfo.out _)) | (go_at_call 58; exact quiet_mine (hun.out _)))
    go_wp2
    go_ret
    exact ⟨rfl, _, rfl⟩
theorem stepF_any (hl : Nat) (n : Nat) (rl : Option Addr) (c : Nat) (w : World) (kl : w.cell? ⟨hl, 0, none⟩ = some (.slice rl n c)) :
    Calls Try.prog 62 #[.pointer (some ⟨hl, 0, none⟩)] w (Reads (if n < 16 then 0 else 3) w) := by
  by_cases h : n < 16
  · have hun := Lib.hid (unless_t 3 w)
    rw [if_pos h]
    have hi : (n : Int) < 16 := by omega
    have hd : decide ((n : Int) < 16) = true := by simpa using hi
    clear h
    go_enter Try.func62, Try.ntmps62
    go_wp2_with fail
    refine hun.out.mono ?_
    rintro en w2 ⟨rfl, rfl⟩
    go_wp2
    go_ret
    exact ⟨rfl, 0, rfl⟩
  · have hun := Lib.hid (unless_f 3 w)
    rw [if_neg h]
    have hi : ¬ (n : Int) < 16 := by omega
    have hd : decide ((n : Int) < 16) = false := by simp; omega
    clear h
    go_enter Try.func62, Try.ntmps62
    go_wp2_with fail
    refine hun.out.mono ?_
    rintro en w2 ⟨rfl, rfl⟩
    go_wp2
    go_ret
    exact ⟨rfl, 0, rfl⟩
end Go.Proofs.Ytnjdgnlgdokddaa
