/- One message of a pool, part by part, beside others: what adding the next part answers. No program is named here. -/
import Derived.Test.YtjcgckhheegonaaPoolK
namespace Go.Proofs.Ytjcgckhheegonaa
set_option linter.unusedVariables false
set_option linter.unusedSimpArgs false
/-- The first j parts held; nothing, once all came. -/
def half (s : ByteArray) (id : Int) (k m j : Nat) (since : Int) : List Ms := if 0 < j ∧ j < m then [⟨(parts s id k m).take j, since⟩] else []
section
variable {s : ByteArray} {id : Int} {k m j : Nat} {since now : Int}
theorem half_0 : half s id k m 0 since = [] := if_neg (by omega)
theorem half_end (h : m ≤ j) : half s id k m j since = [] := if_neg (by omega)
theorem half_in (h0 : 0 < j) (h1 : j < m) : half s id k m j since = [⟨(parts s id k m).take j, since⟩] := if_pos ⟨h0, h1⟩
theorem half_not (h : Cutd s id k m) {id2 : Int} (hne : id ≠ id2) : Not id2 (half s id k m j since) := fun x hx => by
  unfold half at hx
  split at hx
  · rename_i e
    simp only [List.mem_singleton] at hx
    subst hx
    rw [head_take h e.1]
    exact hne
  · simp at hx
theorem half_young (h1 : now - since ≤ 50) : Young now (half s id k m j since) := fun x hx => by
  unfold half at hx
  split at hx
  · simp only [List.mem_singleton] at hx
    subst hx
    simp [oldM]; omega
  · simp at hx
theorem half_len : (half s id k m j since).length ≤ 1 := by
  unfold half
  split <;> simp
theorem half_held (h : Cutd s id k m) : heldM (half s id k m j since) ≤ s.size := by
  unfold half
  split
  · rename_i e
    rw [heldM_cons]
    simp only [heldM, List.foldr_nil]
    rw [sum_cut h j (by omega)]
    omega
  · exact Nat.zero_le _
theorem Not.app {a b : List Ms} (h1 : Not id a) (h2 : Not id b) : Not id (a ++ b) := fun x hx => by
  rcases List.mem_append.1 hx with q | q
  · exact h1 x q
  · exact h2 x q
theorem Young.app {a b : List Ms} (h1 : Young now a) (h2 : Young now b) : Young now (a ++ b) := fun x hx => by
  rcases List.mem_append.1 hx with q | q
  · exact h1 x q
  · exact h2 x q
theorem take_next (hj : j < m) : (parts s id k m).take j ++ [partAt s id k m j] = (parts s id k m).take (j + 1) := by
  rw [List.take_succ_eq_append_getElem (by rw [parts_len]; exact hj)]
  have := parts_getD s id k m j hj
  rw [List.getD_eq_getElem?_getD, List.getElem?_eq_getElem (by rw [parts_len]; exact hj), Option.getD_some] at this
  rw [this]
theorem one_part (h : Cutd s id k m) (hm : m = 1) : (partAt s id k m 0).s = s := by
  have h1 := join_parts h (List.Perm.refl _)
  have h2 : parts s id k m = [partAt s id k m 0] := by
    have := take_next (s := s) (id := id) (k := k) (m := m) (j := 0) (by omega)
    have e : (parts s id k m).take (0 + 1) = parts s id k m := List.take_of_length_le (by rw [parts_len]; omega)
    rw [e] at this
    rw [← this]; rfl
  rw [h2] at h1
  have h3 : joinM [partAt s id k m 0] = (partAt s id k m 0).s := by
    show (⟨#[]⟩ : ByteArray) ++ pick [partAt s id k m 0] 0 = _
    unfold pick
    rw [pick_one (((0 : Nat) : Int)) [partAt s id k m 0] ⟨#[]⟩ (partAt s id k m 0) (by simp) (by simp) rfl, empty_app, empty_app]
  rw [h3] at h1
  exact h1
/-- The next part, whichever it is. -/
theorem half_step (h : Cutd s id k m) (hj : j < m) {slots bytes : Int} {pre post : List Ms} (hn : now - since ≤ 50) (hp : Not id pre) (hq : Not id post) (hy : Young now (pre ++ post)) (h0 : j = 0 → post = [] ∧ now = since) (hl : (pre.length : Int) + post.length < slots) (hs : (s.size : Int) + heldM pre + heldM post ≤ bytes) (hsz : s.size ≤ 4096) :
    addP (partAt s id k m j) now ⟨pre ++ half s id k m j since ++ post, slots, bytes⟩ = (⟨pre ++ half s id k m (j + 1) since ++ post, slots, bytes⟩, (if j + 1 = m then s else ⟨#[]⟩), decide (j + 1 = m), 0) := by
  have hr := h.right (i := j) hj
  have hid : (partAt s id k m j).id = id := rfl
  have hct : (partAt s id k m j).ct = (m : Int) := rfl
  have hix : (partAt s id k m j).ix = (j : Int) := rfl
  by_cases hm1 : m = 1
  · obtain rfl : j = 0 := by omega
    obtain ⟨rfl, rfl⟩ := h0 rfl
    rw [half_0, half_end (by omega), if_pos (by omega), List.append_nil, List.append_nil]
    rw [List.append_nil] at hy
    have := add_whole (slots := slots) (bytes := bytes) hr (by rw [hct, hm1]; rfl) hy
    rw [this, one_part h hm1]
    rw [show decide (0 + 1 = m) = true from decide_eq_true (by omega)]
  · have hct1 : (partAt s id k m j).ct ≠ 1 := by rw [hct]; omega
    by_cases hj0 : j = 0
    · subst hj0
      obtain ⟨rfl, rfl⟩ := h0 rfl
      rw [List.append_nil] at hy
      have hsz2 : (partAt s id k m 0).s.size ≤ s.size := by
        have := sum_cut h 1 (by omega)
        have e := take_next (s := s) (id := id) (k := k) (m := m) (j := 0) (by omega)
        rw [← e, sumS_app] at this
        simp only [sumS, List.take_zero, List.foldr_nil, List.foldr_cons] at this
        omega
      have := add_begin (slots := slots) (bytes := bytes) hr hct1 hy (by rw [hid]; exact hp) (by simp only [List.length_nil] at hl; omega) (by simp only [heldM, List.foldr_nil] at hs ⊢; omega)
      rw [half_0, half_in (by omega) (by omega), if_neg (by omega), List.append_nil, List.append_nil, List.append_nil, this, ← take_next (by omega)]
      rw [show decide (0 + 1 = m) = false from decide_eq_false (by omega)]
      rfl
    · have hhead := head_take h (j := j) (by omega) since
      have hsum : heldM (pre ++ (⟨(parts s id k m).take j, since⟩ : Ms) :: post) + (partAt s id k m j).s.size ≤ heldM pre + heldM post + s.size := by
        have h1 := sum_cut h (j + 1) (by omega)
        rw [← take_next hj, sumS_app] at h1
        simp only [sumS, List.foldr_nil, List.foldr_cons] at h1
        rw [heldM_app, heldM_cons]
        simp only [sumS]
        omega
      have hyy : Young now (pre ++ (⟨(parts s id k m).take j, since⟩ : Ms) :: post) := fun x hx => by
        rcases List.mem_append.1 hx with q | q
        · exact hy x (List.mem_append_left _ q)
        · rcases List.mem_cons.1 q with q | q
          · subst q; simp [oldM]; omega
          · exact hy x (List.mem_append_right _ q)
      have hixs : ∀ g, g ∈ (parts s id k m).take j → g.ix ≠ (partAt s id k m j).ix := fun g hg => by
        obtain ⟨i, hi, e⟩ := take_mem_ix (by omega) hg
        rw [e, hix, show (partAt s id k m i).ix = (i : Int) from rfl]
        omega
      have hlen : ((parts s id k m).take j).length = j := by rw [List.length_take, parts_len]; omega
      rw [half_in (by omega) hj, List.append_assoc, List.singleton_append]
      by_cases hlast : j + 1 = m
      · have hjoin : joinM ((parts s id k m).take j ++ [partAt s id k m j]) = s := by
          rw [take_next hj, List.take_of_length_le (by rw [parts_len]; omega)]
          exact join_parts h (List.Perm.refl _)
        have := add_end (slots := slots) (bytes := bytes) hr hct1 hyy (by rw [hid]; exact hp) (by rw [hid]; exact hq) (by rw [hhead]; rfl) (by rw [hhead]; rfl) hixs (by omega) (by simp only [hlen]; rw [hct]; omega) (by simp only [hjoin]; exact hsz)
        rw [this, half_end (by omega), if_pos hlast, List.append_nil]
        simp only [hjoin]
        rw [show decide (j + 1 = m) = true from decide_eq_true hlast]
      · have := add_more (slots := slots) (bytes := bytes) hr hct1 hyy (by rw [hid]; exact hp) (by rw [hid]; exact hq) (by rw [hhead]; rfl) (by rw [hhead]; rfl) hixs (by omega) (by simp only [hlen]; rw [hct]; omega)
        rw [this, half_in (by omega) (by omega), if_neg hlast, List.append_assoc, List.singleton_append]
        simp only [take_next hj]
        rw [show decide (j + 1 = m) = false from decide_eq_false hlast]
end
end Go.Proofs.Ytjcgckhheegonaa
