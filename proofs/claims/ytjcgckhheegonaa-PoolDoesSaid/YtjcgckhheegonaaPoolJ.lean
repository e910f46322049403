/- Parts of a text that was cut, put together: in whatever order they came; what adding them one behind the other answers. No program is named here. -/
import Derived.Test.YtjcgckhheegonaaPoolB
import Derived.Test.YtjcgckhheegonaaFragQ
namespace Go.Proofs.Ytjcgckhheegonaa
set_option linter.unusedVariables false
set_option linter.unusedSimpArgs false
theorem pick_none (i : Int) : ∀ (fs : List Fr) (s : ByteArray), (∀ f, f ∈ fs → f.ix ≠ i) → fs.foldl (fun s f => if f.ix == i then s ++ f.s else s) s = s
  | [], s, _ => rfl
  | g :: r, s, h => by
    rw [List.foldl_cons, if_neg (by simpa using h g (by simp))]
    exact pick_none i r s (fun f hf => h f (List.mem_cons_of_mem _ hf))
theorem pick_one (i : Int) : ∀ (fs : List Fr) (s : ByteArray) (f : Fr), (fs.map Fr.ix).Nodup → f ∈ fs → f.ix = i → fs.foldl (fun s f => if f.ix == i then s ++ f.s else s) s = s ++ f.s
  | [], s, f, _, hf, _ => by cases hf
  | g :: r, s, f, hn, hf, he => by
    rw [List.map_cons, List.nodup_cons] at hn
    rw [List.foldl_cons]
    rcases List.mem_cons.1 hf with q | q
    · subst q
      rw [if_pos (by simpa using he)]
      exact pick_none i r _ (fun x hx e => hn.1 (by rw [he, ← e]; exact List.mem_map.2 ⟨x, hx, rfl⟩))
    · rw [if_neg (by
        intro e
        have e1 : g.ix = i := by simpa using e
        exact hn.1 (by rw [e1, ← he]; exact List.mem_map.2 ⟨f, q, rfl⟩))]
      exact pick_one i r s f hn.2 q he
theorem cat_fold : ∀ (fs : List Fr) (s : ByteArray), catF fs s = fs.foldl (fun s f => s ++ f.s) s
  | [], s => rfl
  | f :: r, s => by rw [catF, List.foldl_cons]; exact cat_fold r _
theorem empty_app (a : ByteArray) : (⟨#[]⟩ : ByteArray) ++ a = a := by
  apply ByteArray.ext
  apply Array.ext'
  simp
/-- All parts of a text that was cut, in whatever order, are the text. -/
theorem join_parts {s : ByteArray} {id : Int} {k m : Nat} (h : Cutd s id k m) {ps : List Fr} (hp : ps.Perm (parts s id k m)) : joinM ps = s := by
  have hl : ps.length = m := by rw [hp.length_eq, parts_len]
  have hn : (ps.map Fr.ix).Nodup := by
    refine (hp.map Fr.ix).nodup_iff.2 ?_
    rw [List.nodup_iff_pairwise_ne, List.pairwise_iff_getElem]
    intro i j hi hj hij
    simp only [List.length_map, parts_len] at hi hj
    have e : ∀ x, (hx : x < m) → ((parts s id k m).map Fr.ix)[x]'(by simpa [parts_len] using hx) = (x : Int) := fun x hx => by
      rw [List.getElem_map]
      have := parts_getD s id k m x hx
      rw [List.getD_eq_getElem?_getD, List.getElem?_eq_getElem (by rw [parts_len]; exact hx), Option.getD_some] at this
      rw [this]
      rfl
    rw [e i hi, e j hj]
    omega
  have hpk : ∀ i, i < m → pick ps i = ((parts s id k m).getD i zeroF).s := fun i hi => by
    have hm : (parts s id k m).getD i zeroF ∈ ps := hp.mem_iff.2 (by
      rw [List.getD_eq_getElem?_getD, List.getElem?_eq_getElem (by rw [parts_len]; exact hi)]
      exact List.getElem_mem _)
    have := pick_one (i : Int) ps ⟨#[]⟩ _ hn hm (by rw [parts_getD _ _ _ _ _ hi]; rfl)
    rw [empty_app] at this
    exact this
  have key : ∀ n, n ≤ m → (List.range n).foldl (fun s i => s ++ pick ps i) ⟨#[]⟩ = catF ((parts s id k m).take n) ⟨#[]⟩ := by
    intro n
    induction n with
    | zero => intro _; rfl
    | succ n ih =>
      intro hn2
      rw [List.range_succ, List.foldl_append, ih (by omega), List.foldl_cons, List.foldl_nil, hpk n (by omega), List.take_succ_eq_append_getElem (by rw [parts_len]; omega), catF_app, List.getD_eq_getElem?_getD, List.getElem?_eq_getElem (by rw [parts_len]; omega)]
      rfl
  unfold joinM
  rw [hl, key m (Nat.le_refl _), List.take_of_length_le (by rw [parts_len]; exact Nat.le_refl _)]
  exact h.cat
/-! ### One message, part by part -/
/-- The first j parts held, since a time; nothing else. -/
def oneL (s : ByteArray) (id : Int) (k m j : Nat) (since : Int) : List Ms := if j = 0 then [] else [⟨(parts s id k m).take j, since⟩]
section
variable {s : ByteArray} {id : Int} {k m : Nat}
theorem head_take (h : Cutd s id k m) {j : Nat} (hj : 0 < j) (since : Int) : headM ⟨(parts s id k m).take j, since⟩ = partAt s id k m 0 := by
  have h1 := h.m1
  unfold headM
  rw [List.getD_eq_getElem?_getD, List.getElem?_take_of_lt hj, ← List.getD_eq_getElem?_getD]
  exact parts_getD s id k m 0 h1
theorem sum_cut (h : Cutd s id k m) : ∀ j, j ≤ m → sumS ((parts s id k m).take j) = min s.size (j * k) := by
  intro j
  induction j with
  | zero => intro _; simp [sumS]
  | succ j ih =>
    intro hj
    rw [List.take_succ_eq_append_getElem (by rw [parts_len]; omega), sumS_app, ih (by omega)]
    have e : ((parts s id k m)[j]'(by rw [parts_len]; omega)) = partAt s id k m j := by
      have := parts_getD s id k m j (by omega)
      rw [List.getD_eq_getElem?_getD, List.getElem?_eq_getElem (by rw [parts_len]; omega), Option.getD_some] at this
      exact this
    rw [e]
    have hs := part_size s id k m j
    have hlt := h.lt (i := j) (by omega)
    simp only [sumS, List.foldr_cons, List.foldr_nil]
    rw [hs, Nat.succ_mul]
    omega
theorem take_mem_ix {j : Nat} (hj : j ≤ m) {f : Fr} (hf : f ∈ (parts s id k m).take j) : ∃ i, i < j ∧ f = partAt s id k m i := by
  obtain ⟨i, hi, e⟩ := List.mem_iff_getElem.1 hf
  rw [List.length_take, parts_len] at hi
  refine ⟨i, by omega, ?_⟩
  rw [← e, List.getElem_take]
  have := parts_getD s id k m i (by omega)
  rw [List.getD_eq_getElem?_getD, List.getElem?_eq_getElem (by rw [parts_len]; omega), Option.getD_some] at this
  exact this
theorem exp_oneL {j : Nat} {since now : Int} (h1 : now - since ≤ 50) : expM now (oneL s id k m j since) = oneL s id k m j since := by
  unfold oneL
  split
  · rfl
  · simp [expM, oldM]; omega
theorem held_oneL (h : Cutd s id k m) {j : Nat} (hj : j ≤ m) (since : Int) : heldM (oneL s id k m j since) = min s.size (j * k) := by
  unfold oneL
  split
  · rename_i e; subst e; simp [heldM]
  · rw [heldM_cons]
    simp only [heldM, List.foldr_nil]
    rw [sum_cut h j hj]
    omega
/-- The next part, that is not the last one. -/
theorem add_next (h : Cutd s id k m) {j : Nat} (hj : j + 1 < m) {slots bytes now since : Int} (h1 : 1 ≤ slots) (hb : (s.size : Int) ≤ bytes) (hn : now - since ≤ 50) (h0 : j = 0 → now = since) :
    addP (partAt s id k m j) now ⟨oneL s id k m j since, slots, bytes⟩ = (⟨oneL s id k m (j + 1) since, slots, bytes⟩, ⟨#[]⟩, false, 0) := by
  have hr := h.right (i := j) (by omega)
  have hct : (partAt s id k m j).ct = (m : Int) := rfl
  have hid : (partAt s id k m j).id = id := rfl
  have hix : (partAt s id k m j).ix = (j : Int) := rfl
  have hsz : heldM (oneL s id k m j since) + (partAt s id k m j).s.size ≤ s.size := by
    rw [held_oneL h (by omega), part_size]
    have := h.lt (i := j) (by omega)
    omega
  unfold addP
  rw [if_neg (by rw [hr]; decide), if_neg (by rw [hct]; simp; omega)]
  simp only
  rw [exp_oneL hn]
  have key : addL (partAt s id k m j) now slots bytes (oneL s id k m j since) = (oneL s id k m (j + 1) since, ⟨#[]⟩, false, 0) := by
    unfold addL
    by_cases e : j = 0
    · have hn2 := h0 e
      subst e
      have e1 : oneL s id k m 0 since = [] := rfl
      rw [e1] at hsz ⊢
      have e2 : findM (partAt s id k m 0).id [] = none := rfl
      rw [e2]
      simp only
      rw [if_neg (by simp only [List.length_nil]; omega)]
      have e3 : (parts s id k m).take 1 = [partAt s id k m 0] := by
        rw [List.take_succ_eq_append_getElem (by rw [parts_len]; omega), List.take_zero, List.nil_append]
        have := parts_getD s id k m 0 (by omega)
        rw [List.getD_eq_getElem?_getD, List.getElem?_eq_getElem (by rw [parts_len]; omega), Option.getD_some] at this
        rw [this]
      unfold oneL
      rw [if_neg (by omega), hn2, e3]
      rfl
    · have hh := head_take h (by omega : 0 < j) since
      have e1 : oneL s id k m j since = [⟨(parts s id k m).take j, since⟩] := by unfold oneL; rw [if_neg e]
      have e2 : findM (partAt s id k m j).id (oneL s id k m j since) = some ⟨(parts s id k m).take j, since⟩ := by
        rw [e1]
        unfold findM
        rw [List.find?_cons_of_pos (by rw [hh]; simp only [beq_iff_eq]; rfl)]
      rw [e2]
      simp only
      rw [if_neg (by rw [hh]; simp [hct]; rfl), if_neg (by
        intro q
        obtain ⟨g, hg, hq⟩ := List.any_eq_true.1 q
        obtain ⟨i, hi, rfl⟩ := take_mem_ix (by omega) hg
        have h9 : (partAt s id k m i).ix = (partAt s id k m j).ix := by simpa using hq
        have h8 : ((i : Nat) : Int) = (j : Int) := h9
        omega), if_neg (by omega), if_pos (by rw [hct, List.length_take, parts_len]; omega)]
      have e3 : putM (partAt s id k m j).id (partAt s id k m j) (oneL s id k m j since) = oneL s id k m (j + 1) since := by
        rw [e1]
        unfold putM oneL
        rw [List.map_cons, List.map_nil, if_pos (by rw [hh]; simp only [beq_iff_eq]; rfl), if_neg (by omega)]
        congr 2
        rw [List.take_succ_eq_append_getElem (by rw [parts_len]; omega)]
        have := parts_getD s id k m j (by omega)
        rw [List.getD_eq_getElem?_getD, List.getElem?_eq_getElem (by rw [parts_len]; omega), Option.getD_some] at this
        rw [this]
      rw [e3]
  rw [key]
/-- The last part. -/
theorem add_last (h : Cutd s id k m) (h2 : 2 ≤ m) {slots bytes now since : Int} (hb : (s.size : Int) ≤ bytes) (hn : now - since ≤ 50) :
    addP (partAt s id k m (m - 1)) now ⟨oneL s id k m (m - 1) since, slots, bytes⟩ = (⟨[], slots, bytes⟩, s, true, 0) := by
  have hr := h.right (i := m - 1) (by omega)
  have hct : (partAt s id k m (m - 1)).ct = (m : Int) := rfl
  have hsz : heldM (oneL s id k m (m - 1) since) + (partAt s id k m (m - 1)).s.size ≤ s.size := by
    rw [held_oneL h (by omega), part_size]
    have := h.lt (i := m - 1) (by omega)
    omega
  have hs4 := h.s2
  unfold addP
  rw [if_neg (by rw [hr]; decide), if_neg (by rw [hct]; simp; omega)]
  simp only
  rw [exp_oneL hn]
  have hh := head_take h (by omega : 0 < m - 1) since
  have e1 : oneL s id k m (m - 1) since = [⟨(parts s id k m).take (m - 1), since⟩] := by unfold oneL; rw [if_neg (by omega)]
  have e2 : findM (partAt s id k m (m - 1)).id (oneL s id k m (m - 1) since) = some ⟨(parts s id k m).take (m - 1), since⟩ := by
    rw [e1]
    unfold findM
    rw [List.find?_cons_of_pos (by rw [hh]; simp only [beq_iff_eq]; rfl)]
  have e3 : (parts s id k m).take (m - 1) ++ [partAt s id k m (m - 1)] = parts s id k m := by
    have h7 : (parts s id k m).take (m - 1 + 1) = parts s id k m := List.take_of_length_le (by rw [parts_len]; omega)
    rw [List.take_succ_eq_append_getElem (by rw [parts_len]; omega)] at h7
    have := parts_getD s id k m (m - 1) (by omega)
    rw [List.getD_eq_getElem?_getD, List.getElem?_eq_getElem (by rw [parts_len]; omega), Option.getD_some] at this
    rw [this] at h7
    exact h7
  have e4 : joinM (parts s id k m) = s := join_parts h (List.Perm.refl _)
  have e5 : wo (partAt s id k m (m - 1)).id (oneL s id k m (m - 1) since) = [] := by
    rw [e1]
    unfold wo
    have e6 : ((headM ⟨(parts s id k m).take (m - 1), since⟩).id == (partAt s id k m (m - 1)).id) = true := by rw [hh]; simp only [beq_iff_eq]; rfl
    rw [List.filter_cons, e6]
    rfl
  have key : addL (partAt s id k m (m - 1)) now slots bytes (oneL s id k m (m - 1) since) = ([], s, true, 0) := by
    unfold addL
    rw [e2]
    simp only
    rw [if_neg (by rw [hh]; simp [hct]; rfl), if_neg (by
      intro q
      obtain ⟨g, hg, hq⟩ := List.any_eq_true.1 q
      obtain ⟨i, hi, rfl⟩ := take_mem_ix (by omega) hg
      have h9 : (partAt s id k m i).ix = (partAt s id k m (m - 1)).ix := by simpa using hq
      have h8 : ((i : Nat) : Int) = ((m - 1 : Nat) : Int) := h9
      omega), if_neg (by omega), if_neg (by rw [hct, List.length_take, parts_len]; omega), e3, e4, if_neg (by omega), e5]
  rw [key]
/-- A part that came. -/
theorem add_came (h : Cutd s id k m) {i j : Nat} (hi : i < j) (hj : j < m) {slots bytes now since : Int} (hn : now - since ≤ 50) :
    addP (partAt s id k m i) now ⟨oneL s id k m j since, slots, bytes⟩ = (⟨oneL s id k m j since, slots, bytes⟩, ⟨#[]⟩, false, 6) := by
  have hr := h.right (i := i) (by omega)
  have hct : (partAt s id k m i).ct = (m : Int) := rfl
  unfold addP
  rw [if_neg (by rw [hr]; decide), if_neg (by rw [hct]; simp; omega)]
  simp only
  rw [exp_oneL hn]
  have hh := head_take h (by omega : 0 < j) since
  have e1 : oneL s id k m j since = [⟨(parts s id k m).take j, since⟩] := by unfold oneL; rw [if_neg (by omega)]
  have e2 : findM (partAt s id k m i).id (oneL s id k m j since) = some ⟨(parts s id k m).take j, since⟩ := by
    rw [e1]
    unfold findM
    rw [List.find?_cons_of_pos (by rw [hh]; simp only [beq_iff_eq]; rfl)]
  have key : addL (partAt s id k m i) now slots bytes (oneL s id k m j since) = (oneL s id k m j since, ⟨#[]⟩, false, 6) := by
    unfold addL
    rw [e2]
    simp only
    rw [if_neg (by rw [hh]; simp [hct]; rfl), if_pos (List.any_eq_true.2 ⟨partAt s id k m i, by
      refine List.mem_iff_getElem.2 ⟨i, by rw [List.length_take, parts_len]; omega, ?_⟩
      rw [List.getElem_take]
      have := parts_getD s id k m i (by omega)
      rw [List.getD_eq_getElem?_getD, List.getElem?_eq_getElem (by rw [parts_len]; omega), Option.getD_some] at this
      exact this, by simp⟩)]
  rw [key]
/-- A part of another count. -/
theorem add_other (h : Cutd s id k m) {i j : Nat} (hi : i < j) (hj : j < m) {slots bytes now since : Int} (hn : now - since ≤ 50) :
    addP { partAt s id k m i with ct := (m : Int) + 1 } now ⟨oneL s id k m j since, slots, bytes⟩ = (⟨oneL s id k m j since, slots, bytes⟩, ⟨#[]⟩, false, if m + 1 ≤ 16 then 3 else 1) := by
  have hr := rightF_iff.1 (h.right (i := i) (by omega))
  have hix : (partAt s id k m i).ix = (i : Int) := rfl
  unfold addP
  by_cases h16 : m + 1 ≤ 16
  · rw [if_pos h16]
    have hr2 : rightF { partAt s id k m i with ct := (m : Int) + 1 } = true := rightF_iff.2 ⟨hr.1, hr.2.1, by simp only; omega, by simp only; omega, hr.2.2.2.2.1, by simp only [hix]; omega, hr.2.2.2.2.2.2.1, hr.2.2.2.2.2.2.2⟩
    rw [if_neg (by rw [hr2]; decide), if_neg (by simp; omega)]
    simp only
    rw [exp_oneL hn]
    have hh := head_take h (by omega : 0 < j) since
    have e1 : oneL s id k m j since = [⟨(parts s id k m).take j, since⟩] := by unfold oneL; rw [if_neg (by omega)]
    have e2 : findM (partAt s id k m i).id (oneL s id k m j since) = some ⟨(parts s id k m).take j, since⟩ := by
      rw [e1]
      unfold findM
      rw [List.find?_cons_of_pos (by rw [hh]; simp only [beq_iff_eq]; rfl)]
    have key : addL { partAt s id k m i with ct := (m : Int) + 1 } now slots bytes (oneL s id k m j since) = (oneL s id k m j since, ⟨#[]⟩, false, 3) := by
      unfold addL
      simp only [e2]
      have hc : (headM ⟨(parts s id k m).take j, since⟩).ct = (m : Int) := by rw [hh]; rfl
      rw [if_pos (by rw [hc]; simp; omega)]
    rw [key]
  · rw [if_neg h16]
    have hr2 : rightF { partAt s id k m i with ct := (m : Int) + 1 } = false := by
      cases q : rightF { partAt s id k m i with ct := (m : Int) + 1 } with
      | false => rfl
      | true =>
        have := (rightF_iff.1 q).2.2.2.1
        simp only at this
        omega
    rw [if_pos hr2]
end
end Go.Proofs.Ytjcgckhheegonaa
