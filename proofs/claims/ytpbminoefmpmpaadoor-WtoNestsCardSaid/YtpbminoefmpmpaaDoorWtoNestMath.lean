/- WtoNests: the heads of a head are those that were told ahead of it, and itself. -/
import Derived.Test.YtpbminoefmpmpaaDoorWtoSpec
namespace Go.Proofs.YtpbminoefmpmpaaDoor
set_option linter.unusedVariables false
set_option linter.unusedSimpArgs false

/-- Where k heads the entry at: the heads of at begin with those of k. -/
theorem hds_front {S : List Int} {at' k : Nat} (hp : preA S S.length) (ha : at' < S.length) (hk : k ∈ hds S at') : ∃ r, hds S at' = hds S k ++ r := by
  obtain ⟨h1, h2⟩ := mem_hds.1 hk
  refine ⟨((List.range (at' - k)).map fun j => j + (k + 1)).filter fun j => decide ((at' : Int) - j < S.getD j 0), ?_⟩
  have e : List.range (at' + 1) = List.range (k + 1) ++ (List.range (at' - k)).map fun j => j + (k + 1) := by
    rw [show at' + 1 = (k + 1) + (at' - k) by omega, List.range_add]
    congr 1
    exact List.map_congr_left fun j _ => Nat.add_comm _ _
  unfold hds
  rw [e, List.filter_append]
  congr 1
  refine List.filter_congr fun j hj => ?_
  have hj : j < k + 1 := List.mem_range.1 hj
  by_cases c : j = k
  · subst c; apply decide_eq_decide.2; omega
  · have ok := (hp k (by omega)).2.2 j (by omega)
    apply decide_eq_decide.2
    constructor
    · intro h; omega
    · intro h; have := ok h; omega
theorem hds_nodup (S : List Int) (i : Nat) : (hds S i).Nodup := List.Nodup.sublist List.filter_sublist List.nodup_range
theorem hds_take {S : List Int} {at' i : Nat} (hp : preA S S.length) (ha : at' < S.length) (hi : i < (hds S at').length) : hds S ((hds S at').getD i 0) = (hds S at').take (i + 1) := by
  have hk : (hds S at').getD i 0 ∈ hds S at' := by simp [List.getD, hi]
  have e0 : (hds S at')[i] = (hds S at').getD i 0 := by simp [List.getD, hi]
  generalize (hds S at').getD i 0 = k at *
  obtain ⟨r, hr⟩ := hds_front hp ha hk
  obtain ⟨h1, h2⟩ := mem_hds.1 hk
  have hs : hds S k = stk S k ++ [k] := by rw [hds_eq, if_pos (by omega)]
  have nd := hds_nodup S at'
  have hlt : (stk S k).length < (hds S at').length := by rw [hr, hs]; simp
  have e1 : (hds S at')[(stk S k).length] = k := by simp [hr, hs]
  have hi2 : i = (stk S k).length := by
    rcases Nat.lt_trichotomy i (stk S k).length with h | h | h
    · exact absurd (e0.trans e1.symm) (List.pairwise_iff_getElem.1 nd i _ hi hlt h)
    · exact h
    · exact absurd (e1.trans e0.symm) (List.pairwise_iff_getElem.1 nd _ i hlt hi h)
  rw [hi2, hr, List.take_left' (by simp [hs])]
/-- A point's place, where each is there once. -/
theorem pos_at {P : List Int} (ho : onceP P P.length) {k : Nat} (hk : k < P.length) : posW P (P.getD k 0) = k := by
  have e : P.getD k 0 = P[k] := by simp [List.getD, hk]
  unfold posW
  rw [List.findIdx_eq hk]
  refine ⟨by rw [e]; simp, fun j hj => ?_⟩
  have h := (ho k hk).2.2 j hj
  have e2 : P.getD j 0 = P[j] := by simp [List.getD, show j < P.length by omega]
  rw [← e2]
  simpa using h
structure NestW (P S : List Int) (l : List Int) : Prop where
  deep : l.length ≤ depthW P S
  each : ∀ i, i < l.length → l.getD i 0 ∈ headsW P S (l.getD i 0) ∧ headsW P S (l.getD i 0) = l.take (i + 1)
theorem nest_heads (P S : List Int) (p : Int) : NestW P S (headsW P S p) := by
  by_cases h : chkW P S = 0 ∧ p ∈ P
  case neg => rw [headsW, if_neg h]; exact ⟨Nat.zero_le _, fun i hi => by simp at hi⟩
  have O := chk_ok.1 h.1
  have hpos : posW P p < P.length := List.findIdx_lt_length_of_exists ⟨p, h.2, by simp⟩
  have hposS : posW P p < S.length := by have := O.len; omega
  have eH : headsW P S p = (hds S (posW P p)).map fun k => P.getD k 0 := by rw [headsW, if_pos h]
  rw [eH]
  refine ⟨?_, fun i hi => ?_⟩
  · rw [List.length_map, depthW, if_pos h.1]
    exact most_at hposS
  · rw [List.length_map] at hi
    have hk : (hds S (posW P p)).getD i 0 ∈ hds S (posW P p) := by simp [List.getD, hi]
    have ht := hds_take O.nest hposS hi
    have eg : ((hds S (posW P p)).map fun k => P.getD k 0).getD i 0 = P.getD ((hds S (posW P p)).getD i 0) 0 := by simp [List.getD, hi]
    rw [eg]
    generalize (hds S (posW P p)).getD i 0 = k at *
    obtain ⟨h1, h2⟩ := mem_hds.1 hk
    have hkl : k < P.length := by omega
    have hpk := pos_at O.once hkl
    have hm : P.getD k 0 ∈ P := by simp [List.getD, hkl]
    have eh : headsW P S (P.getD k 0) = (hds S k).map fun k => P.getD k 0 := by rw [headsW, if_pos ⟨h.1, hm⟩, hpk]
    rw [eh]
    refine ⟨List.mem_map.2 ⟨k, mem_hds.2 ⟨by omega, by omega⟩, rfl⟩, ?_⟩
    rw [ht, List.map_take]
end Go.Proofs.YtpbminoefmpmpaaDoor
