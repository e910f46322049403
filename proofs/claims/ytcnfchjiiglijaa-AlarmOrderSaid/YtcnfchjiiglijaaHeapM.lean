/- Alarms as a heap, as the library turns one: what up and down make of a row, that the heap's order holds behind them, and that nothing is lost. No program is named here. -/
import Derived.Test.YtcnfchjiiglijaaRows
import Derived.Lib.Hide
namespace Go.Proofs.Ytcnfchjiiglijaa
set_option linter.unusedVariables false
set_option linter.unusedSimpArgs false
set_option maxRecDepth 20000

/-- An alarm: its number, and when. -/
structure On where
  id : Int
  at_ : Int
def zeroO : On := ⟨0, 0⟩
def ltO (a b : On) : Bool := decide (a.at_ < b.at_) || (a.at_ == b.at_ && decide (a.id < b.id))
def leP (a b : On) : Prop := a.at_ < b.at_ ∨ (a.at_ = b.at_ ∧ a.id ≤ b.id)
theorem ltO_true {a b : On} : ltO a b = true ↔ a.at_ < b.at_ ∨ (a.at_ = b.at_ ∧ a.id < b.id) := by
  simp only [ltO, Bool.or_eq_true, Bool.and_eq_true, decide_eq_true_eq, beq_iff_eq]
theorem ltO_le {a b : On} (h : ltO a b = true) : leP a b := by
  have := ltO_true.1 h
  unfold leP; omega
theorem ltO_not {a b : On} (h : ltO a b = false) : leP b a := by
  have h2 : ¬ (a.at_ < b.at_ ∨ (a.at_ = b.at_ ∧ a.id < b.id)) := fun q => by rw [ltO_true.2 q] at h; cases h
  unfold leP; omega
theorem leP_not {a b : On} (h : leP a b) : ltO b a = false := by
  cases hq : ltO b a with
  | false => rfl
  | true =>
    have := ltO_true.1 hq
    unfold leP at h; omega
theorem leP_refl (a : On) : leP a a := by unfold leP; omega
theorem leP_trans {a b c : On} (h : leP a b) (k : leP b c) : leP a c := by unfold leP at *; omega
theorem leP_antisymm {a b : On} (h : leP a b) (k : leP b a) : a = b := by
  obtain ⟨x, y⟩ := a
  obtain ⟨u, v⟩ := b
  unfold leP at *
  simp only at h k
  have h1 : x = u := by omega
  have h2 : y = v := by omega
  rw [h1, h2]

/-! ### A row, two of its places changed for each other -/
def gt (H : List On) (i : Nat) : On := H.getD i zeroO
def swapL (H : List On) (i j : Nat) : List On := (H.set i (gt H j)).set j (gt H i)
theorem swap_len (H : List On) (i j : Nat) : (swapL H i j).length = H.length := by simp [swapL]
theorem gt_set (H : List On) (i k : Nat) (x : On) (hi : i < H.length) : gt (H.set i x) k = if k = i then x else gt H k := by
  simp only [gt, List.getD_eq_getElem?_getD, List.getElem?_set]
  by_cases h : i = k
  · rw [if_pos h, if_pos hi, if_pos h.symm]; rfl
  · rw [if_neg h, if_neg (fun e => h e.symm)]
theorem gt_swap {H : List On} {i j : Nat} (hi : i < H.length) (hj : j < H.length) (k : Nat) : gt (swapL H i j) k = if k = j then gt H i else if k = i then gt H j else gt H k := by
  unfold swapL
  rw [gt_set _ _ _ _ (by rw [List.length_set]; exact hj), gt_set _ _ _ _ hi]
theorem gt_eq {H : List On} {i : Nat} (h : i < H.length) : gt H i = H[i] := by simp [gt, List.getD, h]
theorem swap_perm {H : List On} {i j : Nat} (hi : i < H.length) (hj : j < H.length) : (swapL H i j).Perm H := by
  unfold swapL
  rw [gt_eq hi, gt_eq hj]
  exact List.set_set_perm hi hj

/-! ### Up and down -/
def upF (j : Nat) (H : List On) : List On :=
  if h : j = 0 then H else if ltO (gt H j) (gt H ((j - 1) / 2)) = true then upF ((j - 1) / 2) (swapL H ((j - 1) / 2) j) else H
termination_by j
decreasing_by omega
def child (H : List On) (n i : Nat) : Nat := if 2 * i + 2 < n ∧ ltO (gt H (2 * i + 2)) (gt H (2 * i + 1)) = true then 2 * i + 2 else 2 * i + 1
theorem child_gt (H : List On) (n i : Nat) : i < child H n i := by unfold child; split <;> omega
theorem child_lt (H : List On) (n i : Nat) (h : 2 * i + 1 < n) : child H n i < n := by
  unfold child
  split
  · rename_i q; exact q.1
  · exact h
theorem child_par (H : List On) (n i : Nat) : (child H n i - 1) / 2 = i := by unfold child; split <;> omega
def downF (i n : Nat) (H : List On) : List On × Nat :=
  if h : 2 * i + 1 < n then (if ltO (gt H (child H n i)) (gt H i) = true then downF (child H n i) n (swapL H i (child H n i)) else (H, i)) else (H, i)
termination_by n - i
decreasing_by have := child_gt H n i; omega
theorem up_zero (H : List On) : upF 0 H = H := by rw [upF]; simp
theorem up_go {H : List On} {j : Nat} (h : j ≠ 0) (hl : ltO (gt H j) (gt H ((j - 1) / 2)) = true) : upF j H = upF ((j - 1) / 2) (swapL H ((j - 1) / 2) j) := by
  rw [upF, dif_neg h, if_pos hl]
theorem up_stop {H : List On} {j : Nat} (hl : ltO (gt H j) (gt H ((j - 1) / 2)) = false) : upF j H = H := by
  rw [upF]
  by_cases h : j = 0
  · rw [dif_pos h]
  · rw [dif_neg h, if_neg (by rw [hl]; decide)]
theorem down_end {H : List On} {i n : Nat} (h : ¬ 2 * i + 1 < n) : downF i n H = (H, i) := by rw [downF, dif_neg h]
theorem down_go {H : List On} {i n : Nat} (h : 2 * i + 1 < n) (hl : ltO (gt H (child H n i)) (gt H i) = true) : downF i n H = downF (child H n i) n (swapL H i (child H n i)) := by
  rw [downF, dif_pos h, if_pos hl]
theorem down_stop {H : List On} {i n : Nat} (h : 2 * i + 1 < n) (hl : ltO (gt H (child H n i)) (gt H i) = false) : downF i n H = (H, i) := by
  rw [downF, dif_pos h, if_neg (by rw [hl]; decide)]

theorem up_perm : ∀ (j : Nat) (H : List On), j < H.length → (upF j H).Perm H := by
  intro j
  induction j using Nat.strongRecOn with
  | ind j ih =>
    intro H hj
    by_cases h0 : j = 0
    · rw [h0, up_zero]
    · cases hl : ltO (gt H j) (gt H ((j - 1) / 2)) with
      | false => rw [up_stop hl]
      | true =>
        rw [up_go h0 hl]
        exact (ih _ (by omega) _ (by rw [swap_len]; omega)).trans (swap_perm (by omega) hj)
theorem up_len (j : Nat) (H : List On) (hj : j < H.length) : (upF j H).length = H.length := (up_perm j H hj).length_eq
theorem up_far : ∀ (j : Nat) (H : List On) (k : Nat), j < H.length → j < k → gt (upF j H) k = gt H k := by
  intro j
  induction j using Nat.strongRecOn with
  | ind j ih =>
    intro H k hj hk
    by_cases h0 : j = 0
    · rw [h0, up_zero]
    · cases hl : ltO (gt H j) (gt H ((j - 1) / 2)) with
      | false => rw [up_stop hl]
      | true =>
        rw [up_go h0 hl, ih _ (by omega) _ k (by rw [swap_len]; omega) (by omega), gt_swap (by omega) hj, if_neg (by omega), if_neg (by omega)]
theorem down_perm (n : Nat) : ∀ (d i : Nat) (H : List On), n - i ≤ d → n ≤ H.length → (downF i n H).1.Perm H := by
  intro d
  induction d with
  | zero =>
    intro i H hd hn
    rw [down_end (by omega)]
  | succ d ih =>
    intro i H hd hn
    by_cases h : 2 * i + 1 < n
    · cases hl : ltO (gt H (child H n i)) (gt H i) with
      | false => rw [down_stop h hl]
      | true =>
        have h1 := child_gt H n i
        have h2 := child_lt H n i h
        rw [down_go h hl]
        exact (ih _ _ (by omega) (by rw [swap_len]; exact hn)).trans (swap_perm (by omega) (by omega))
    · rw [down_end h]
theorem down_far (n : Nat) : ∀ (d i : Nat) (H : List On) (k : Nat), n - i ≤ d → n ≤ H.length → n ≤ k → gt (downF i n H).1 k = gt H k := by
  intro d
  induction d with
  | zero =>
    intro i H k hd hn hk
    rw [down_end (by omega)]
  | succ d ih =>
    intro i H k hd hn hk
    by_cases h : 2 * i + 1 < n
    · cases hl : ltO (gt H (child H n i)) (gt H i) with
      | false => rw [down_stop h hl]
      | true =>
        have h1 := child_gt H n i
        have h2 := child_lt H n i h
        rw [down_go h hl, ih _ _ k (by omega) (by rw [swap_len]; exact hn) hk, gt_swap (by omega) (by omega), if_neg (by omega), if_neg (by omega)]
    · rw [down_end h]
theorem down_ge (n : Nat) : ∀ (d i : Nat) (H : List On), n - i ≤ d → i ≤ (downF i n H).2 := by
  intro d
  induction d with
  | zero =>
    intro i H hd
    rw [down_end (by omega)]; exact Nat.le_refl _
  | succ d ih =>
    intro i H hd
    by_cases h : 2 * i + 1 < n
    · cases hl : ltO (gt H (child H n i)) (gt H i) with
      | false => rw [down_stop h hl]; exact Nat.le_refl _
      | true =>
        have h1 := child_gt H n i
        rw [down_go h hl]
        exact Nat.le_trans (Nat.le_of_lt h1) (ih _ _ (by omega))
    · rw [down_end h]; exact Nat.le_refl _

/-- The order of a heap's first n places. -/
def HeapOn (n : Nat) (H : List On) : Prop := ∀ j, 0 < j → j < n → leP (gt H ((j - 1) / 2)) (gt H j)
theorem up_heap (n : Nat) : ∀ (j : Nat) (H : List On), j < n → n ≤ H.length →
    (∀ c, 0 < c → c < n → c ≠ j → leP (gt H ((c - 1) / 2)) (gt H c)) →
    (∀ c, 0 < c → c < n → (c - 1) / 2 = j → 0 < j → leP (gt H ((j - 1) / 2)) (gt H c)) → HeapOn n (upF j H) := by
  intro j
  induction j using Nat.strongRecOn with
  | ind j ih =>
    intro H hj hn h1 h2
    by_cases h0 : j = 0
    · subst h0
      rw [up_zero]
      intro c c0 c1
      exact h1 c c0 c1 (by omega)
    · cases hl : ltO (gt H j) (gt H ((j - 1) / 2)) with
      | false =>
        rw [up_stop hl]
        intro c c0 c1
        by_cases hc : c = j
        · subst hc; exact ltO_not hl
        · exact h1 c c0 c1 hc
      | true =>
        rw [up_go h0 hl]
        obtain ⟨p, hp⟩ : ∃ p, (j - 1) / 2 = p := ⟨_, rfl⟩
        have hpj : p < j := by omega
        have hg := gt_swap (H := H) (i := p) (j := j) (by omega) (by omega)
        have hlt : leP (gt H j) (gt H p) := by rw [← hp]; exact ltO_le hl
        rw [hp] at h2 ⊢
        refine ih p hpj _ (by omega) (by rw [swap_len]; exact hn) ?_ ?_
        · intro c c0 c1 hc
          rw [hg, hg]
          by_cases hcj : c = j
          · subst hcj
            rw [if_pos rfl, hp, if_neg (by omega), if_pos rfl]
            exact hlt
          · rw [if_neg hcj, if_neg hc]
            by_cases hcp : (c - 1) / 2 = j
            · rw [if_pos hcp]
              exact h2 c c0 c1 hcp (by omega)
            · rw [if_neg hcp]
              by_cases hcq : (c - 1) / 2 = p
              · rw [if_pos hcq]
                have := h1 c c0 c1 hcj
                rw [hcq] at this
                exact leP_trans hlt this
              · rw [if_neg hcq]
                exact h1 c c0 c1 hcj
        · intro c c0 c1 hc hp0
          rw [hg, hg, if_neg (by omega), if_neg (by omega)]
          have hpp := h1 p hp0 (by omega) (by omega)
          by_cases hcj : c = j
          · rw [if_pos hcj]; exact hpp
          · rw [if_neg hcj, if_neg (by omega)]
            have := h1 c c0 c1 hcj
            rw [hc] at this
            exact leP_trans hpp this
/-- Down from i: where it went on, all is in order; where it did not, all but i and what is above it. -/
theorem down_heap (n : Nat) : ∀ (d i : Nat) (H : List On), n - i ≤ d → n ≤ H.length →
    (∀ c, 0 < c → c < n → (c - 1) / 2 ≠ i → c ≠ i → leP (gt H ((c - 1) / 2)) (gt H c)) →
    (∀ c, 0 < c → c < n → (c - 1) / 2 = i → 0 < i → leP (gt H ((i - 1) / 2)) (gt H c)) →
    ((downF i n H).2 = i → (downF i n H).1 = H ∧ ∀ c, 0 < c → c < n → c ≠ i → leP (gt H ((c - 1) / 2)) (gt H c)) ∧
    ((downF i n H).2 ≠ i ∨ (0 < i → leP (gt H ((i - 1) / 2)) (gt H i)) → HeapOn n (downF i n H).1) := by
  intro d
  induction d with
  | zero =>
    intro i H hd hn h1 h2
    rw [down_end (by omega)]
    have key : ∀ c, 0 < c → c < n → c ≠ i → leP (gt H ((c - 1) / 2)) (gt H c) := fun c c0 c1 hc => h1 c c0 c1 (by omega) hc
    refine ⟨fun _ => ⟨rfl, key⟩, fun h c c0 c1 => ?_⟩
    exact key c c0 c1 (by omega)
  | succ d ih =>
    intro i H hd hn h1 h2
    have stop : (∀ c, 0 < c → c < n → (c - 1) / 2 = i → leP (gt H i) (gt H c)) → downF i n H = (H, i) →
        ((downF i n H).2 = i → (downF i n H).1 = H ∧ ∀ c, 0 < c → c < n → c ≠ i → leP (gt H ((c - 1) / 2)) (gt H c)) ∧
        ((downF i n H).2 ≠ i ∨ (0 < i → leP (gt H ((i - 1) / 2)) (gt H i)) → HeapOn n (downF i n H).1) := by
      intro hch he
      rw [he]
      have key : ∀ c, 0 < c → c < n → c ≠ i → leP (gt H ((c - 1) / 2)) (gt H c) := by
        intro c c0 c1 hc
        by_cases hp : (c - 1) / 2 = i
        · rw [hp]; exact hch c c0 c1 hp
        · exact h1 c c0 c1 hp hc
      refine ⟨fun _ => ⟨rfl, key⟩, fun h c c0 c1 => ?_⟩
      by_cases hc : c = i
      · subst hc
        rcases h with h | h
        · exact absurd rfl h
        · exact h c0
      · exact key c c0 c1 hc
    by_cases h : 2 * i + 1 < n
    · have g1 := child_gt H n i
      have g2 := child_lt H n i h
      have g3 := child_par H n i
      have gmin : ∀ c, 0 < c → c < n → (c - 1) / 2 = i → leP (gt H (child H n i)) (gt H c) := by
        intro c c0 c1 hc
        have hcc : c = 2 * i + 1 ∨ c = 2 * i + 2 := by omega
        unfold child
        split
        · rename_i q
          rcases hcc with rfl | rfl
          · exact ltO_le q.2
          · exact leP_refl _
        · rename_i q
          rcases hcc with rfl | rfl
          · exact leP_refl _
          · refine ltO_not ?_
            cases hq : ltO (gt H (2 * i + 2)) (gt H (2 * i + 1)) with
            | false => rfl
            | true => exact absurd ⟨by omega, hq⟩ q
      cases hl : ltO (gt H (child H n i)) (gt H i) with
      | false =>
        refine stop ?_ (down_stop h hl)
        intro c c0 c1 hc
        exact leP_trans (ltO_not hl) (gmin c c0 c1 hc)
      | true =>
        rw [down_go h hl]
        obtain ⟨j, hj⟩ : ∃ j, child H n i = j := ⟨_, rfl⟩
        rw [hj] at g1 g2 g3 gmin hl ⊢
        have hg := gt_swap (H := H) (i := i) (j := j) (by omega) (by omega)
        have hlt := ltO_le hl
        have hge := down_ge n d j (swapL H i j) (by omega)
        obtain ⟨_, r2⟩ := ih j (swapL H i j) (by omega) (by rw [swap_len]; exact hn) (by
          intro c c0 c1 hp hc
          rw [hg, hg, if_neg hp, if_neg hc]
          by_cases hci : c = i
          · subst hci
            rw [if_neg (by omega), if_pos rfl]
            exact h2 j (by omega) g2 g3 c0
          · rw [if_neg hci]
            by_cases hpi : (c - 1) / 2 = i
            · rw [if_pos hpi]
              exact gmin c c0 c1 hpi
            · rw [if_neg hpi]
              exact h1 c c0 c1 hpi hci) (by
          intro c c0 c1 hp hj0
          rw [hg, hg, g3, if_neg (by omega), if_pos rfl, if_neg (by omega), if_neg (by omega)]
          have := h1 c c0 c1 (by omega) (by omega)
          rw [hp] at this
          exact this)
        refine ⟨fun q => absurd q (by omega), fun _ => r2 (.inr fun _ => ?_)⟩
        rw [hg, hg, g3, if_neg (by omega), if_pos rfl, if_pos rfl]
        exact hlt
    · refine stop ?_ (down_end h)
      intro c c0 c1 hc
      omega
theorem heap_root {n : Nat} {H : List On} (h : HeapOn n H) : ∀ k, k < n → leP (gt H 0) (gt H k) := by
  intro k
  induction k using Nat.strongRecOn with
  | ind k ih =>
    intro hk
    by_cases h0 : k = 0
    · subst h0; exact leP_refl _
    · exact leP_trans (ih ((k - 1) / 2) (by omega) (by omega)) (h k (by omega) hk)
theorem HeapOn.less {n m : Nat} {H : List On} (h : HeapOn n H) (hm : m ≤ n) : HeapOn m H := fun j j0 j1 => h j j0 (by omega)

/-! ### What the library's calls make of a heap -/
/-- Down, and up where it did not go down. -/
def mendF (i n : Nat) (H : List On) : List On := if i < (downF i n H).2 then (downF i n H).1 else upF i (downF i n H).1
theorem mend_perm {i n : Nat} {H : List On} (hi : i < n) (hn : n ≤ H.length) : (mendF i n H).Perm H := by
  have h1 := down_perm n n i H (by omega) hn
  unfold mendF
  split
  · exact h1
  · exact (up_perm i _ (by rw [h1.length_eq]; omega)).trans h1
theorem mend_far {i n : Nat} {H : List On} (hi : i < n) (hn : n ≤ H.length) (k : Nat) (hk : n ≤ k) : gt (mendF i n H) k = gt H k := by
  have h1 := down_perm n n i H (by omega) hn
  have h2 := down_far n n i H k (by omega) hn hk
  unfold mendF
  split
  · exact h2
  · rw [up_far i _ k (by rw [h1.length_eq]; omega) (by omega), h2]
/-- One place of a heap set to whatever, and mended. -/
theorem mend_heap {i n : Nat} {H G : List On} (hG : HeapOn n G) (hi : i < n) (hn : n ≤ H.length) (hs : ∀ k, k < n → k ≠ i → gt H k = gt G k) : HeapOn n (mendF i n H) := by
  have c1 : ∀ c, 0 < c → c < n → (c - 1) / 2 ≠ i → c ≠ i → leP (gt H ((c - 1) / 2)) (gt H c) := by
    intro c c0 c1 hp hc
    rw [hs _ (by omega) hp, hs _ c1 hc]
    exact hG c c0 c1
  have c2 : ∀ c, 0 < c → c < n → (c - 1) / 2 = i → 0 < i → leP (gt H ((i - 1) / 2)) (gt H c) := by
    intro c c0 c1 hp hi0
    rw [hs _ (by omega) (by omega), hs c c1 (by omega)]
    have h1 := hG c c0 c1
    rw [hp] at h1
    exact leP_trans (hG i hi0 hi) h1
  obtain ⟨r1, r2⟩ := down_heap n n i H (by omega) hn c1 c2
  have hge := down_ge n n i H (by omega)
  unfold mendF
  split
  · exact r2 (.inl (by omega))
  · obtain ⟨e, r3⟩ := r1 (by omega)
    rw [e]
    exact up_heap n i H hi hn r3 c2
theorem push_heap {H : List On} (h : HeapOn H.length H) (x : On) : HeapOn (H.length + 1) (upF H.length (H ++ [x])) := by
  have hg : ∀ k, k < H.length → gt (H ++ [x]) k = gt H k := by
    intro k hk
    simp only [gt, List.getD_eq_getElem?_getD]
    rw [List.getElem?_append_left hk]
  refine up_heap _ _ _ (by omega) (by simp) ?_ ?_
  · intro c c0 c1 hc
    rw [hg _ (by omega), hg _ (by omega)]
    exact h c c0 (by omega)
  · intro c c0 c1 hc hp
    omega
theorem push_perm (H : List On) (x : On) : (upF H.length (H ++ [x])).Perm (x :: H) :=
  (up_perm _ _ (by simp)).trans (by have := (List.perm_append_comm (l₁ := H) (l₂ := [x])); exact this)
/-- One taken out: changed for the last one, mended ahead of it, cut off. -/
def takeF (i : Nat) (H : List On) : List On := if H.length - 1 = i then H else mendF i (H.length - 1) (swapL H i (H.length - 1))
theorem take_last {i : Nat} {H : List On} (hi : i < H.length) : gt (takeF i H) (H.length - 1) = gt H i := by
  unfold takeF
  split
  · rename_i h; rw [h]
  · rw [mend_far (by omega) (by rw [swap_len]; omega) _ (Nat.le_refl _), gt_swap hi (by omega), if_pos rfl]
theorem take_permF {i : Nat} {H : List On} (hi : i < H.length) : (takeF i H).Perm H := by
  unfold takeF
  split
  · exact List.Perm.refl _
  · exact (mend_perm (by omega) (by rw [swap_len]; omega)).trans (swap_perm hi (by omega))
theorem take_len {i : Nat} {H : List On} (hi : i < H.length) : (takeF i H).length = H.length := (take_permF hi).length_eq
theorem take_heap {i : Nat} {H : List On} (h : HeapOn H.length H) (hi : i < H.length) : HeapOn (H.length - 1) (takeF i H) := by
  unfold takeF
  split
  · exact h.less (by omega)
  · rename_i hne
    refine mend_heap (G := H) (h.less (by omega)) (by omega) (by rw [swap_len]; omega) ?_
    intro k hk hki
    rw [gt_swap hi (by omega), if_neg (by omega), if_neg hki]
/-- What is left, and the one that was taken out. -/
theorem take_split {i : Nat} {H : List On} (hi : i < H.length) : ((gt H i) :: (takeF i H).take (H.length - 1)).Perm H := by
  have h1 := take_permF hi
  have h2 : takeF i H = (takeF i H).take (H.length - 1) ++ [gt H i] := by
    have hl := take_len hi
    have h3 := List.take_append_drop (H.length - 1) (takeF i H)
    have h4 : (takeF i H).drop (H.length - 1) = [gt H i] := by
      rw [List.drop_eq_getElem_cons (by omega), ← gt_eq (by omega), take_last hi, List.drop_eq_nil_of_le (by omega)]
    rw [h4] at h3
    exact h3.symm
  have h5 : ((takeF i H).take (H.length - 1) ++ [gt H i]).Perm H := by rw [← h2]; exact h1
  exact (List.perm_append_comm (l₁ := [gt H i]) (l₂ := (takeF i H).take (H.length - 1))).trans h5
end Go.Proofs.Ytcnfchjiiglijaa
