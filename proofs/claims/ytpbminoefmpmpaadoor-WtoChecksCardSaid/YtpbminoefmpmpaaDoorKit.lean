/- Words of my own for slices of numbers: what a slice reads as, what a call has made; an append of one number; a conversion to text. Over any program. -/
import Derived.WalkKit
import Derived.LoopTactic
import Derived.Outline
import Derived.Lib.Hide
import Derived.Laws.BytesArg
namespace Go.Proofs.YtpbminoefmpmpaaDoor
open Go.RowKit
set_option linter.unusedVariables false

/-- The numbers as cells. -/
def nums (k : IntKind) (l : List Int) : List Value := l.map (Value.int k)
theorem nums_snoc (k : IntKind) (l : List Int) (x : Int) : nums k (l ++ [x]) = nums k l ++ [.int k x] := by simp [nums]

/-- A slice value at the address a reads, in w, as the numbers l (its length is theirs); its cells lie below block B. -/
def Sees (k : IntKind) (B : Nat) (w : World) (a : Option Addr) (l : List Int) : Prop :=
  l = [] ∨ ∃ b off, a = some ⟨b, off, none⟩ ∧ b < B ∧ ∀ i, i < l.length → w.cell? ⟨b, off + i, none⟩ = some (.int k (l.getD i 0))

theorem Sees.below {k B w w' a l} (h : Sees k B w a l) (hb : Below B w w') : Sees k B w' a l := by
  rcases h with h | ⟨b, off, rfl, hB, hc⟩
  · exact .inl h
  · exact .inr ⟨b, off, rfl, hB, fun i hi => (hb.cell (p := ⟨b, off + i, none⟩) hB).trans (hc i hi)⟩
theorem Sees.mono {k B B' w a l} (h : Sees k B w a l) (hb : B ≤ B') : Sees k B' w a l := by
  rcases h with h | ⟨b, off, rfl, hB, hc⟩
  · exact .inl h
  · exact .inr ⟨b, off, rfl, by omega, hc⟩
theorem Sees.nil {k B w a} : Sees k B w a [] := .inl rfl

/-- What came in, by the shell's word for it. -/
theorem sees_row {k : IntKind} {w : World} {a : Option Addr} {len cap : Nat} {zs : List Int}
    (h : (a = none ∧ len = 0 ∧ cap = 0 ∧ zs = []) ∨
      ∃ x, a = some x ∧ len ≤ cap ∧ cap ≤ maxLen ∧ zs.length = cap ∧ (∀ i, i < zs.length → w.cell? (x.add i) = some (.int k (zs.getD i 0))) ∧ ∀ n ∈ zs, (Lit.int k n).wf = true) :
    ∃ l : List Int, l.length = len ∧ len ≤ maxLen ∧ len ≤ cap ∧ (∀ n ∈ l, (Lit.int k n).wf = true) ∧ Sees k w.heap.size w a l := by
  rcases h with ⟨rfl, rfl, rfl, rfl⟩ | ⟨x, rfl, hl, hm, hz, hc, hw⟩
  · exact ⟨[], rfl, by simp, Nat.le_refl _, by simp, .inl rfl⟩
  · refine ⟨zs.take len, by simp; omega, by omega, hl, fun n hn => hw n (List.mem_of_mem_take hn), ?_⟩
    by_cases h0 : len = 0
    · left; subst h0; simp
    · right
      obtain ⟨b, off, spot⟩ := x
      have hc0 := hc 0 (by omega)
      have hspot : spot = none := by simpa [Addr.add] using World.cell?_spot hc0
      subst hspot
      refine ⟨b, off, rfl, World.block_lt_of_cell? w _ (hc0 : w.cell? ((⟨b, off, none⟩ : Addr).add 0) = _) |> fun h => by simpa [Addr.add] using h, fun i hi => ?_⟩
      have hi' : i < len := by simp at hi; omega
      have h1 := hc i (by omega)
      have h2 : (⟨b, off, none⟩ : Addr).add i = ⟨b, off + i, none⟩ := by unfold Addr.add; split <;> simp_all
      rw [h2] at h1
      rw [h1]
      simp [List.getD, hi']

/-- What the call owns reads as its numbers. -/
theorem sees_own {k : IntKind} {w : World} {base : Nat} {e : TypeId} {v : Value} {n : Nat} {l : List Int} (h : w.ownsRow base e 1 v n (nums k l)) :
    ∃ a cap, v = .slice a l.length cap ∧ n = l.length ∧ Sees k w.heap.size w a l := by
  have hn : n = l.length := by have := h.1; simp [nums] at this; omega
  rcases h.2 with ⟨rfl, h0⟩ | ⟨g, cap, cur, rfl, _, hg, _⟩
  · subst hn
    exact ⟨none, 0, by rw [h0], rfl, .inl (List.eq_nil_of_length_eq_zero h0)⟩
  · subst hn
    refine ⟨_, cap, rfl, rfl, .inr ⟨g, 0, rfl, (Array.getElem?_eq_some_iff.1 hg).1, fun i hi => ?_⟩⟩
    have := h.cells (g := g) rfl i (.int k (l.getD i 0)) (by simp [nums, List.getD, hi])
    have h2 : (⟨g, 0, none⟩ : Addr).add i = ⟨g, 0 + i, none⟩ := by unfold Addr.add; split <;> simp_all
    rw [h2] at this
    exact this

/-- What a call hands back: a slice of its own that reads as l; nothing of what was there has turned. -/
def Made (e0 : TypeId) (k : IntKind) (w : World) (l : List Int) (e : Ending) (w' : World) : Prop :=
  ∃ v, e = .returned v ∧ w'.ownsRow w.heap.size e0 1 v l.length (nums k l) ∧ Below w.heap.size w w'

/-- What a call hands back that only makes memory. -/
def Gives (v : Value) (w : World) (e : Ending) (w' : World) : Prop := e = .returned v ∧ Below w.heap.size w w'

/-- An append of one number to a row of the call's own. -/
theorem wpList_append1 {P : Program} (w : World) {ops : Array Oper} {rest : List Oper} {o : Oper} {a : Act} {Q : Exit → Act → World → Prop}
    (hg : o.guard = none) (s x : Operand) (t : TypeId) (hop : o.op = Op.call { callee := Callee.builtin Builtin.append, args := #[s, x], argTypes := #[t, t] })
    (w0 : World) (e : TypeId) (i : TypeInfo) (z : Value) (bytes : Nat) (ht : P.underlying t = some (.slice e)) (hi : P.info? e = some i) (hz : i.zero = some z)
    (hsize : i.size = 1) (hby : i.bytes = bytes) (hzs : z.cells.size = 1) (k : IntKind) (y : Int)
    (v : Value) (l : List Int) (hown : w.ownsRow w0.heap.size e 1 v l.length (nums k l)) (hb : Below w0.heap.size w0 w)
    (hs : a.eval s = v) (hx : a.eval x = .slice (some ⟨w.heap.size, 0, none⟩) 1 1)
    (hn : l.length < 17592186044416) (h8 : bytes ≤ 8)
    (hK : ∀ v' w', w'.ownsRow w0.heap.size e 1 v' (l ++ [y]).length (nums k (l ++ [y])) → Below w0.heap.size w0 w' → wpList P ops Q rest (a.put o.dst v') w') :
    wpList P ops Q (o :: rest) a (w.alloc (.cells #[.int k y] e)) := by
  have hm : (l.length + 1) * bytes ≤ 140737488355328 := Nat.le_trans (Nat.mul_le_mul (by omega : l.length + 1 ≤ 17592186044416) h8) (by omega)
  refine wpList_append_own _ hg s x t hop w0.heap.size e i z 1 bytes ht hi hz hsize hby hzs (by omega) v l.length (nums k l) hs (hown.alloc _) ⟨w.heap.size, 0, none⟩ 1 1 [.int k y] hx rfl ?_ ?_ (by unfold maxLen; omega) hm ?_ ?_
  · intro j u hj
    match j, hj with
    | 0, hj => simp at hj; subst hj; simp [Addr.add]
  · intro u hu; simp at hu; subst hu; rfl
  · have := hb.size; simp; omega
  · intro v' w' hown' hgrow _
    refine hK v' w' (by rw [nums_snoc, List.length_append]; exact hown') ?_
    refine (hb.alloc hb.size _).grown hgrow (by have := hb.size; simp; omega) fun q hq => ?_
    exact (hown.lt q hq).1

/-- string(b) of a slice that reads as l. -/
theorem conv_sees {P : Program} (src dst e : TypeId) (hs : P.underlying src = some (.slice e)) (he : P.underlying e = some (.int .u8)) (hd : P.underlying dst = some .string)
    {B : Nat} {w : World} {a : Option Addr} {l : List Int} (h : Sees .u8 B w a l) (n c : Nat) (hn : n = l.length) : (convert src dst (.slice a n c)).run P w = .ok (.string (strOfNums l)) w := by
  subst hn
  rcases h with rfl | ⟨b, off, rfl, _, hc⟩
  · cases a with
    | none => exact run_convert_bytes_nil w src e hs he _ _ dst hd
    | some x =>
      have := run_convert_bytes_string (P := P) w src dst e (some x) 0 c hs he hd
      rw [show ([] : List Int).length = 0 from rfl, this]
      have hl : (loadCells x 0).run P w = .ok ([] : List Value).toArray w := run_loadCells_list (P := P) w x [] (by simp)
      rw [run_bytesToString w x 0 c [] (by simpa using hl)]
      rfl
  · exact run_convert_bytes_arg w src e hs he b off _ c l rfl hc dst hd

/-- Numbers that are bytes. -/
def Bs (l : List Int) : Prop := ∀ x ∈ l, 0 ≤ x ∧ x ≤ 255
theorem bs_of_wf {l : List Int} (h : ∀ n ∈ l, (Lit.int .u8 n).wf = true) : Bs l := by
  intro x hx
  have := h x hx
  simpa [Lit.wf, IntKind.min, IntKind.max, IntKind.signed, IntKind.bits] using this
theorem Bs.at {l : List Int} (h : Bs l) {i : Nat} (hi : i < l.length) : 0 ≤ l.getD i 0 ∧ l.getD i 0 ≤ 255 := by
  simp only [List.getD, List.getElem?_eq_getElem hi, Option.getD_some]
  exact h _ (List.getElem_mem _)

theorem strOfNums_inj {l r : List Int} (hl : Bs l) (hr : Bs r) (h : strOfNums l = strOfNums r) : l = r := by
  have h2 : (strOfNums l).data.toList = (strOfNums r).data.toList := by rw [h]
  rw [strOfNums_data, strOfNums_data] at h2
  clear h
  induction l generalizing r with
  | nil => cases r with
    | nil => rfl
    | cons y r => simp at h2
  | cons x l ih => cases r with
    | nil => simp at h2
    | cons y r =>
      simp only [List.map_cons, List.cons.injEq] at h2
      have hx := hl x (by simp)
      have hy := hr y (by simp)
      have h3 : x.toNat = y.toNat := by
        have := congrArg UInt8.toNat h2.1
        simp only [UInt8.toNat_ofNat'] at this
        omega
      rw [show x = y by omega, ih (fun z hz => hl z (by simp [hz])) (fun z hz => hr z (by simp [hz])) h2.2]

theorem u64_wf {n : Int} (h : (Lit.int .u64 n).wf = true) : 0 ≤ n ∧ n ≤ 18446744073709551615 := by
  simpa [Lit.wf, IntKind.min, IntKind.max, IntKind.signed, IntKind.bits] using h
theorem i64_wf {n : Int} (h : (Lit.int .i64 n).wf = true) : -9223372036854775808 ≤ n ∧ n ≤ 9223372036854775807 := by
  simpa [Lit.wf, IntKind.min, IntKind.max, IntKind.signed, IntKind.bits] using h
theorem u32_wf {n : Int} (h : (Lit.int .u32 n).wf = true) : 0 ≤ n ∧ n ≤ 4294967295 := by
  simpa [Lit.wf, IntKind.min, IntKind.max, IntKind.signed, IntKind.bits] using h
theorem wrap_u64_in {n : Int} (h0 : 0 ≤ n) (h1 : n ≤ 18446744073709551615) : IntKind.u64.wrap n = n := by
  simp [IntKind.wrap, IntKind.bits, IntKind.signed]; omega
theorem u64_quo {n c : Int} (h0 : 0 ≤ n) (h1 : n ≤ 18446744073709551615) (hc : 0 < c) : IntKind.u64.wrap (n.tdiv c) = n / c := by
  rw [Int.tdiv_eq_ediv_of_nonneg h0]
  have h2 : n / c ≤ n := Int.ediv_le_self _ h0
  exact wrap_u64_in (Int.ediv_nonneg h0 (by omega)) (by omega)
theorem ret_bool {a b : Bool} (h : a = b) : Ending.returned (.bool a) = Ending.returned (.bool b) := by rw [h]
theorem ret_int {k : IntKind} {a b : Int} (h : a = b) : Ending.returned (.int k a) = Ending.returned (.int k b) := by rw [h]

/-- A slice literal. -/
theorem sees_new (k : IntKind) (w : World) (e : TypeId) (l : List Int) (cs : Array Value) (h : cs = (nums k l).toArray) (fr : Nat × Nat := (0, 0)) : Sees k (w.heap.size + 1) (w.alloc (.cells cs e fr)) (some ⟨w.heap.size, 0, none⟩) l := by
  subst h
  refine .inr ⟨w.heap.size, 0, rfl, by omega, fun i hi => ?_⟩
  rw [cell_of_row _ _ _ _ _ _ (heap_alloc_new w _)]
  simp [nums, List.getD, hi]
theorem sees_at (k : IntKind) (w : World) (e : TypeId) (l : List Int) (cs : Array Value) (n : Nat) (hn : n = w.heap.size) (h : cs = (nums k l).toArray) {fr : Nat × Nat} : Sees k (n + 1) (w.alloc (.cells cs e fr)) (some ⟨n, 0, none⟩) l := by
  subst hn; exact sees_new k w e l cs h fr
theorem bs_lit {l : List Int} (h : l.all (fun x => decide (0 ≤ x ∧ x ≤ 255)) = true) : Bs l := by
  intro x hx
  have := List.all_eq_true.1 h x hx
  simpa using this

/-- What was made, opened. -/
theorem Made.open {e0 : TypeId} {k : IntKind} {w w' : World} {l : List Int} {e : Ending} (h : Made e0 k w l e w') (n : Nat) (hn : l.length = n) :
    ∃ a cap, e = .returned (.slice a n cap) ∧ Sees k w'.heap.size w' a l ∧ Below w.heap.size w w' := by
  subst hn
  obtain ⟨v, rfl, hown, hb⟩ := h
  obtain ⟨a, cap, rfl, _, hs⟩ := sees_own hown
  exact ⟨a, cap, rfl, hs, hb⟩

theorem Sees.take {k : IntKind} {B : Nat} {w : World} {a : Option Addr} {l : List Int} (h : Sees k B w a l) (n : Nat) : Sees k B w a (l.take n) := by
  rcases h with rfl | ⟨b, off, rfl, hB, hc⟩
  · left; simp
  · refine .inr ⟨b, off, rfl, hB, fun i hi => ?_⟩
    have h1 : i < l.length := by simp at hi; omega
    have h2 : i < n := by simp at hi; omega
    rw [hc i h1]
    simp [List.getD, h2]
theorem Bs.take {l : List Int} (h : Bs l) (n : Nat) : Bs (l.take n) := fun x hx => h x (List.mem_of_mem_take hx)

theorem own_cap {k : IntKind} {w : World} {base : Nat} {e : TypeId} {n : Nat} {l : List Int} {a : Option Addr} {m c : Nat} (h : w.ownsRow base e 1 (.slice a m c) n (nums k l)) : m ≤ c := by
  rcases h.2 with ⟨h1, _⟩ | ⟨g, cap, cur, h1, _, _, h2, _⟩
  · injection h1 with _ h2 h3; omega
  · injection h1 with _ h3 h4; omega
/-- What was made, opened; its room, too. -/
theorem Made.openc {e0 : TypeId} {k : IntKind} {w w' : World} {l : List Int} {e : Ending} (h : Made e0 k w l e w') (n : Nat) (hn : l.length = n) :
    ∃ a cap, e = .returned (.slice a n cap) ∧ Sees k w'.heap.size w' a l ∧ Below w.heap.size w w' ∧ n ≤ cap := by
  subst hn
  obtain ⟨v, rfl, hown, hb⟩ := h
  obtain ⟨a, cap, rfl, _, hs⟩ := sees_own hown
  exact ⟨a, cap, rfl, hs, hb, own_cap hown⟩

/-- Texts of unlike numbers, as the walk compares them. -/
theorem str_ne {l r : List Int} (hl : Bs l) (hr : Bs r) (h : ¬ l = r) : ((strOfNums l).toList == (strOfNums r).toList) = false := by
  rw [beq_eq_false_iff_ne]
  intro he
  rw [ByteArray.toList_eq, ByteArray.toList_eq] at he
  exact h (strOfNums_inj hl hr (ByteArray.ext (Array.toList_inj.1 he)))

/-- A row of noughts, as a make lays it. -/
theorem made_zero (k : IntKind) (n : Nat) : (madeCells (Value.int k 0).cells (n * 1)).toList = nums k (List.replicate n 0) := by
  apply List.ext_getElem
  · simp [madeCells, nums]
  · intro i h1 h2
    simp [madeCells, nums, Value.cells, Nat.mod_one]

/-- A conversion whose run is known. -/
theorem wpList_conv {P : Program} (w : World) {ops : Array Oper} {rest : List Oper} {o : Oper} {a : Act} {Q : Exit → Act → World → Prop}
    (hg : o.guard = none) (x : Operand) (src dst : TypeId) (hop : o.op = Op.convert src dst x) (v s : Value) (hrun : (convert src dst v).run P w = .ok s w) (hx : a.eval x = v)
    (hK : wpList P ops Q rest (a.put o.dst s) w) : wpList P ops Q (o :: rest) a w := by
  refine wpList_plain hg fun K hK' => ?_
  unfold Oper.wp
  simp [execOp, hop, hx, hrun, Result.andThen]
  exact hK' _ _ hK
end Go.Proofs.YtpbminoefmpmpaaDoor
