/- One message of a pool, its parts in any order, behind others: what adding the next part answers. No program is named here. -/
import Derived.Test.YtjcgckhheegonaaPoolH
namespace Go.Proofs.Ytjcgckhheegonaa
set_option linter.unusedVariables false
set_option linter.unusedSimpArgs false
/-- A text's parts, in whatever order. -/
structure Shuf (s : ByteArray) (id : Int) (k m : Nat) (ps : List Fr) : Prop where
  cut : Cutd s id k m
  perm : ps.Perm (parts s id k m)
def shalf (ps : List Fr) (j : Nat) (since : Int) : List Ms := if 0 < j ∧ j < ps.length then [⟨ps.take j, since⟩] else []
section
variable {s : ByteArray} {id : Int} {k m : Nat} {ps : List Fr}
theorem Shuf.start (h : Cutd s id k m) : Shuf s id k m (parts s id k m) := ⟨h, List.Perm.refl _⟩
theorem Shuf.len (h : Shuf s id k m ps) : ps.length = m := by rw [h.perm.length_eq, parts_len]
theorem Shuf.of (h : Shuf s id k m ps) {f : Fr} (hf : f ∈ ps) : rightF f = true ∧ f.id = id ∧ f.ct = (m : Int) := by
  have h1 := h.perm.mem_iff.1 hf
  obtain ⟨i, hi, e⟩ := List.mem_iff_getElem.1 h1
  rw [parts_len] at hi
  have := parts_getD s id k m i hi
  rw [List.getD_eq_getElem?_getD, List.getElem?_eq_getElem (by rw [parts_len]; exact hi), Option.getD_some] at this
  rw [← e, this]
  exact ⟨h.cut.right hi, rfl, rfl⟩
theorem Shuf.at (h : Shuf s id k m ps) {j : Nat} (hj : j < m) : ps.getD j zeroF ∈ ps := by
  have hj2 : j < ps.length := by rw [h.len]; exact hj
  rw [List.getD_eq_getElem?_getD, List.getElem?_eq_getElem hj2]
  exact List.getElem_mem hj2
theorem Shuf.once (h : Shuf s id k m ps) : (ps.map Fr.ix).Nodup := by
  refine (h.perm.map Fr.ix).nodup_iff.2 ?_
  have : (parts s id k m).map Fr.ix = (List.range m).map (fun (i : Nat) => (i : Int)) := by unfold parts; rw [List.map_map]; rfl
  rw [this]
  have hn : (List.range m).Nodup := List.nodup_range
  refine List.pairwise_map.2 (List.Pairwise.imp (fun {a b} hne e => hne (by omega)) hn)
theorem Shuf.swap (h : Shuf s id k m ps) {i j : Nat} (hi : i < m) (hj : j < m) : Shuf s id k m ((ps.set i (ps.getD j zeroF)).set j (ps.getD i zeroF)) := by
  have hi2 : i < ps.length := by rw [h.len]; exact hi
  have hj2 : j < ps.length := by rw [h.len]; exact hj
  refine ⟨h.cut, List.Perm.trans ?_ h.perm⟩
  have := List.set_set_perm hi2 hj2
  rw [List.getD_eq_getElem?_getD, List.getElem?_eq_getElem hj2, List.getD_eq_getElem?_getD, List.getElem?_eq_getElem hi2]
  exact this
theorem Shuf.next (h : Shuf s id k m ps) {j : Nat} (hj : j < m) : ps.take j ++ [ps.getD j zeroF] = ps.take (j + 1) := by
  have hj2 : j < ps.length := by rw [h.len]; exact hj
  rw [List.take_succ_eq_append_getElem hj2, List.getD_eq_getElem?_getD, List.getElem?_eq_getElem hj2]
  rfl
theorem sumS_perm2 {a b : List Fr} (h : a.Perm b) : sumS a = sumS b := by
  induction h with
  | nil => rfl
  | cons x _ ih => simp only [sumS, List.foldr_cons] at ih ⊢; omega
  | swap x y l => simp only [sumS, List.foldr_cons]; omega
  | trans _ _ i1 i2 => rw [i1, i2]
theorem sum_take_le (ps : List Fr) (j : Nat) : sumS (ps.take j) ≤ sumS ps := by
  have := sumS_app (ps.take j) (ps.drop j)
  rw [List.take_append_drop] at this
  omega
theorem Shuf.sum (h : Shuf s id k m ps) {j : Nat} (hj : j < m) : sumS (ps.take j) + (ps.getD j zeroF).s.size ≤ s.size := by
  have h1 := sum_take_le ps (j + 1)
  rw [← h.next hj, sumS_app] at h1
  have h2 := sumS_perm2 h.perm
  have h3 := sum_cut h.cut m (Nat.le_refl _)
  rw [List.take_of_length_le (by rw [parts_len]; exact Nat.le_refl _)] at h3
  simp only [sumS, List.foldr_cons, List.foldr_nil] at h1 h2 h3 ⊢
  omega
theorem Shuf.head (h : Shuf s id k m ps) {j : Nat} (h0 : 0 < j) (since : Int) (h1 : 0 < m) : (headM ⟨ps.take j, since⟩).id = id ∧ (headM ⟨ps.take j, since⟩).ct = (m : Int) := by
  have e : headM ⟨ps.take j, since⟩ = ps.getD 0 zeroF := by
    unfold headM
    rw [List.getD_eq_getElem?_getD, List.getElem?_take_of_lt h0, ← List.getD_eq_getElem?_getD]
  rw [e]
  exact (h.of (h.at h1)).2
/-- The next part, whichever it is. -/
theorem shuf_step (h : Shuf s id k m ps) {j : Nat} (hj : j < m) {now since slots bytes : Int} {pre : List Ms} (hn : now - since ≤ 50) (hp : Not id pre) (hy : Young now pre) (h0 : j = 0 → now = since) (hl : (pre.length : Int) < slots) (hs : (s.size : Int) + heldM pre ≤ bytes) :
    addP (ps.getD j zeroF) now ⟨pre ++ shalf ps j since, slots, bytes⟩ = (⟨pre ++ shalf ps (j + 1) since, slots, bytes⟩, (if j + 1 = m then s else ⟨#[]⟩), decide (j + 1 = m), 0) := by
  obtain ⟨hr, hid, hct⟩ := h.of (h.at hj)
  have hlen := h.len
  have hsum := h.sum hj
  have hssz := h.cut.s2
  by_cases hm1 : m = 1
  · obtain rfl : j = 0 := by omega
    obtain rfl := h0 rfl
    have e1 : shalf ps 0 now = [] := if_neg (by omega)
    have e2 : shalf ps (0 + 1) now = [] := if_neg (by omega)
    rw [e1, e2, if_pos (by omega), List.append_nil]
    have := add_whole (slots := slots) (bytes := bytes) hr (by rw [hct, hm1]; rfl) hy
    have hps : ps = [ps.getD 0 zeroF] := by
      have := h.next (j := 0) (by omega)
      rw [List.take_of_length_le (l := ps) (i := 0 + 1) (by omega)] at this
      rw [← this]; rfl
    have hjoin : (ps.getD 0 zeroF).s = s := by
      have hj1 := join_parts h.cut h.perm
      have hq : parts s id k m = [partAt s id k m 0] := by
        have := take_next (s := s) (id := id) (k := k) (m := m) (j := 0) (by omega)
        have e : (parts s id k m).take (0 + 1) = parts s id k m := List.take_of_length_le (by rw [parts_len]; omega)
        rw [e] at this
        rw [← this]; rfl
      have hmem := h.perm.mem_iff.1 (h.at hj)
      rw [hq, List.mem_singleton] at hmem
      rw [hmem]
      exact one_part h.cut hm1
    rw [this, hjoin, show decide (0 + 1 = m) = true from decide_eq_true (by omega)]
  · have hct1 : (ps.getD j zeroF).ct ≠ 1 := by rw [hct]; omega
    by_cases hj0 : j = 0
    · subst hj0
      obtain rfl := h0 rfl
      have e1 : shalf ps 0 now = [] := if_neg (by omega)
      have e2 : shalf ps (0 + 1) now = [⟨ps.take (0 + 1), now⟩] := if_pos ⟨by omega, by omega⟩
      have := add_begin (slots := slots) (bytes := bytes) hr hct1 hy (by rw [hid]; exact hp) hl (by simp only [sumS, List.take_zero, List.foldr_nil] at hsum; omega)
      rw [e1, e2, if_neg (by omega), List.append_nil, this, ← h.next (by omega), show decide (0 + 1 = m) = false from decide_eq_false (by omega)]
      rfl
    · obtain ⟨hh1, hh2⟩ := h.head (j := j) (by omega) since (by omega)
      have e1 : shalf ps j since = [⟨ps.take j, since⟩] := if_pos ⟨by omega, by omega⟩
      have hsum2 : heldM (pre ++ (⟨ps.take j, since⟩ : Ms) :: []) + (ps.getD j zeroF).s.size ≤ heldM pre + s.size := by
        rw [heldM_app, heldM_cons]
        simp only [heldM, List.foldr_nil]
        omega
      have hyy : Young now (pre ++ (⟨ps.take j, since⟩ : Ms) :: []) := fun x hx => by
        rcases List.mem_append.1 hx with q | q
        · exact hy x q
        · simp only [List.mem_singleton] at q
          subst q; simp [oldM]; omega
      have hixs : ∀ g, g ∈ ps.take j → g.ix ≠ (ps.getD j zeroF).ix := fun g hg e => by
        have h1 : ((ps.take (j + 1)).map Fr.ix).Nodup := h.once.sublist ((List.take_sublist _ _).map _)
        rw [← h.next hj, List.map_append, List.nodup_append] at h1
        exact h1.2.2 g.ix (List.mem_map.2 ⟨g, hg, rfl⟩) (ps.getD j zeroF).ix (by simp) e
      have hlj : (ps.take j).length = j := by rw [List.length_take]; omega
      have hnil : Not (ps.getD j zeroF).id [] := fun x hx => by simp at hx
      rw [e1]
      by_cases hlast : j + 1 = m
      · have e2 : shalf ps (j + 1) since = [] := if_neg (by omega)
        have hjoin : joinM (ps.take j ++ [ps.getD j zeroF]) = s := by
          rw [h.next hj, List.take_of_length_le (by omega)]
          exact join_parts h.cut h.perm
        have := add_end (slots := slots) (bytes := bytes) (post := []) hr hct1 hyy (by rw [hid]; exact hp) hnil (by rw [hh1, hid]) (by rw [hh2, hct]) hixs (by omega) (by simp only [hlj]; rw [hct]; omega) (by simp only [hjoin]; exact hssz)
        rw [this, e2, if_pos hlast]
        simp only [hjoin]
        rw [show decide (j + 1 = m) = true from decide_eq_true hlast]
      · have e2 : shalf ps (j + 1) since = [⟨ps.take (j + 1), since⟩] := if_pos ⟨by omega, by omega⟩
        have := add_more (slots := slots) (bytes := bytes) (post := []) hr hct1 hyy (by rw [hid]; exact hp) hnil (by rw [hh1, hid]) (by rw [hh2, hct]) hixs (by omega) (by simp only [hlj]; rw [hct]; omega)
        rw [this, e2, if_neg hlast]
        simp only [h.next hj]
        rw [show decide (j + 1 = m) = false from decide_eq_false hlast]
end
end Go.Proofs.Ytjcgckhheegonaa
