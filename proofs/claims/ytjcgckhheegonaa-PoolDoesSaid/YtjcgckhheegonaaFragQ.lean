/- What is cut: each part may be, each but the last one is full, they are joined as they were; with one left out, one more, or one changed they are not. -/
import Derived.Test.YtjcgckhheegonaaFragP
namespace Go.Proofs.Ytjcgckhheegonaa
open Go.RowKit
set_option linter.unusedVariables false
set_option linter.unusedSimpArgs false
set_option maxRecDepth 20000

theorem many_quo2 (n k : Nat) (hk : 1 ≤ k) : ((n : Int) + (k : Int) - 1).tdiv (k : Int) = ((many n k : Nat) : Int) := by
  unfold many
  rw [show (n : Int) + (k : Int) - 1 = ((n + k - 1 : Nat) : Int) by omega]
  exact (Int.ofNat_tdiv (n + k - 1) k).symm
theorem many_le (n k : Nat) (hk : 1 ≤ k) : many n k ≤ n := by
  have := many_iff (n := n) (k := k) (i := n) hk
  have h2 : ¬ n * k < n := by have : n * 1 ≤ n * k := Nat.mul_le_mul_left _ hk; omega
  have h3 : ¬ n < many n k := fun q => h2 (this.1 q)
  omega
theorem toList_empty {A : ByteArray} (h : A.size = 0) : A.toList = [] := by
  rw [ByteArray.toList_eq]
  exact List.eq_nil_of_length_eq_zero (by rw [list_len]; exact h)
theorem toList_some {A : ByteArray} (h : A.size ≠ 0) : A.toList.isEmpty = false := by
  rw [ByteArray.toList_eq]
  cases hq : A.data.toList with
  | nil => exact absurd (by rw [← list_len, hq]; rfl) h
  | cons a r => rfl
theorem i64_small2 {x : Int} (h0 : -1000000 ≤ x) (h1 : x ≤ 1000000) : IntKind.i64.wrap x = x := by
  simp [IntKind.wrap, IntKind.bits, IntKind.signed]
  omega
theorem drew_below (u : World) : Below u.heap.size u u.drew := ⟨rfl, rfl, rfl, Nat.le_refl _, fun _ _ => rfl⟩
theorem u32_range {x : Int} (h : (Lit.int .u32 x).wf = true) : 0 ≤ x ∧ x ≤ 4294967295 := by
  simpa [Lit.wf, IntKind.bits, IntKind.signed, IntKind.min, IntKind.max] using h
theorem u16_range {x : Int} (h : (Lit.int .u16 x).wf = true) : 0 ≤ x ∧ x ≤ 65535 := by
  simpa [Lit.wf, IntKind.bits, IntKind.signed, IntKind.min, IntKind.max] using h
theorem u8_range {x : Int} (h : (Lit.int .u8 x).wf = true) : 0 ≤ x ∧ x ≤ 255 := by
  simpa [Lit.wf, IntKind.bits, IntKind.signed, IntKind.min, IntKind.max] using h
theorem parts_len (s : ByteArray) (id : Int) (k m : Nat) : (parts s id k m).length = m := by simp [parts]
theorem parts_getD (s : ByteArray) (id : Int) (k m i : Nat) (h : i < m) : (parts s id k m).getD i zeroF = partAt s id k m i := by simp [parts, List.getD, h]
/-- What a text of at most 4096 bytes, a size of 1 to 1000 and a number of 1 to 2^32 are. -/
structure Good (s : ByteArray) (id : Int) (k : Nat) : Prop where
  id1 : 1 ≤ id
  id2 : id ≤ 4294967296
  k1 : 1 ≤ k
  k2 : k ≤ 1000
  s2 : s.size ≤ 4096
theorem cut_none {s : ByteArray} {id : Int} {k : Nat} (h : s.size = 0) : cutF s id k = ([], 1) := by
  unfold cutF; rw [if_pos (by omega)]
theorem cut_many {s : ByteArray} {id : Int} {k : Nat} (h : Good s id k) (h0 : s.size ≠ 0) (hm : 16 < many s.size k) : cutF s id k = ([], 4) := by
  obtain ⟨h1, h2, h3, h4, h5⟩ := h
  unfold cutF; rw [if_neg (by omega), Int.toNat_natCast, if_pos hm]
theorem cut_parts {s : ByteArray} {id : Int} {k : Nat} (h : Good s id k) (h0 : s.size ≠ 0) (hm : ¬ 16 < many s.size k) : cutF s id k = (parts s id k (many s.size k), 0) := by
  obtain ⟨h1, h2, h3, h4, h5⟩ := h
  unfold cutF; rw [if_neg (by omega), Int.toNat_natCast, if_neg hm]
theorem many_zero (k : Nat) (hk : 1 ≤ k) : many 0 k = 0 := by
  unfold many
  exact Nat.div_eq_of_lt (by omega)
theorem many_pos {n k : Nat} (hk : 1 ≤ k) (h0 : n ≠ 0) : 1 ≤ many n k := (many_iff hk).2 (by omega)
theorem many_16 {n k : Nat} (hk : 1 ≤ k) : 16 < many n k ↔ 16 * k < n := many_iff hk
/-- A row that was cut. -/
structure Cutd (s : ByteArray) (id : Int) (k m : Nat) : Prop extends Good s id k where
  s1 : s.size ≠ 0
  hm : many s.size k = m
  m2 : m ≤ 16
section
variable {s : ByteArray} {id : Int} {k m : Nat}
theorem Cutd.m1 (h : Cutd s id k m) : 1 ≤ m := by rw [← h.hm]; exact many_pos h.k1 h.s1
theorem Cutd.lt (h : Cutd s id k m) {i : Nat} (hi : i < m) : i * k < s.size := (many_iff h.k1).1 (by rw [h.hm]; exact hi)
theorem Cutd.ge (h : Cutd s id k m) : s.size ≤ m * k := by
  have := many_iff (n := s.size) (k := k) (i := m) h.k1
  rw [h.hm] at this
  have h2 : ¬ m * k < s.size := fun q => absurd (this.2 q) (Nat.lt_irrefl _)
  omega
theorem part_size (s : ByteArray) (id : Int) (k m i : Nat) : (partAt s id k m i).s.size = min s.size (i * k + k) - i * k := by
  show (s.extract (i * k) (min s.size (i * k + k))).size = _
  simp only [ByteArray.size_extract]
  omega
theorem Cutd.le (h : Cutd s id k m) {i : Nat} (hi : i < m) : (partAt s id k m i).s.size ≤ k ∧ 1 ≤ (partAt s id k m i).s.size := by
  have := h.lt hi
  have := h.k1
  rw [part_size]
  omega
theorem Cutd.full (h : Cutd s id k m) {i : Nat} (hi : i + 1 < m) : (partAt s id k m i).s.size = k := by
  have := h.lt hi
  rw [Nat.add_mul, Nat.one_mul] at this
  rw [part_size]
  omega
theorem Cutd.right (h : Cutd s id k m) {i : Nat} (hi : i < m) : rightF (partAt s id k m i) = true := by
  have h1 := h.le hi
  have h2 := h.m2
  have h3 := h.k2
  have h4 := h.id1
  have h5 := h.id2
  refine rightF_iff.2 ⟨h4, h5, ?_, ?_, ?_, ?_, ?_, ?_⟩
  · show (1 : Int) ≤ (m : Int); omega
  · show (m : Int) ≤ 16; omega
  · show (0 : Int) ≤ (i : Int); omega
  · show (i : Int) < (m : Int); omega
  · omega
  · omega
theorem cat_parts (s : ByteArray) (id : Int) (k : Nat) (m : Int) : ∀ j, (j = 0 ∨ (j - 1) * k ≤ s.size) → catF ((List.range j).map (partAt s id k m)) ⟨#[]⟩ = s.extract 0 (min s.size (j * k)) := by
  intro j
  induction j with
  | zero =>
    intro _
    apply list_ext
    rw [extract_list]
    simp [catF]
  | succ j ih =>
    intro hj
    have hj' : j * k ≤ s.size := by rcases hj with h | h
                                    · omega
                                    · simpa using h
    rw [List.range_succ, List.map_append, List.map_cons, List.map_nil, catF_app, ih (by
      cases j with
      | zero => exact .inl rfl
      | succ j => right; rw [Nat.add_sub_cancel]; rw [Nat.add_mul, Nat.one_mul] at hj'; omega)]
    apply list_ext
    rw [app_list, extract_list, extract_list, Nat.add_mul, Nat.one_mul, Nat.min_eq_right hj']
    show _ ++ (s.extract (j * k) (min s.size (j * k + k))).data.toList = _
    rw [extract_list, List.drop_zero, List.drop_zero]
    have := List.take_append_drop (j * k) (s.data.toList.take (min s.size (j * k + k)))
    rw [List.take_take, Nat.min_eq_left (by omega)] at this
    exact this
theorem Cutd.cat (h : Cutd s id k m) : catF (parts s id k m) ⟨#[]⟩ = s := by
  have h1 := h.m1
  unfold parts
  rw [cat_parts s id k m m (.inr (Nat.le_of_lt (h.lt (by omega)))), Nat.min_eq_left h.ge]
  simp
theorem Cutd.ok (h : Cutd s id k m) {i : Nat} (hi : i < m) : okAt id m i (partAt s id k m i) = true := okAt_iff.2 ⟨h.right hi, rfl, rfl, rfl⟩
theorem Cutd.first (h : Cutd s id k m) : ((parts s id k m).getD 0 zeroF).id = id := by rw [parts_getD _ _ _ _ _ h.m1]; rfl
theorem Cutd.join (h : Cutd s id k m) : joinF (parts s id k m) = (s, 0) := by
  rw [join_all (by rw [parts_len]; have := h.m1; omega) (by rw [parts_len]; exact h.m2) (fun j hj => by
    rw [parts_len] at hj ⊢
    rw [h.first, parts_getD _ _ _ _ _ hj]
    exact h.ok hj), h.cat, if_neg (by have := h.s2; omega)]
/-- One place at which a row is not whole. -/
theorem join_off {fs : List Fr} {i : Nat} (hi : i < fs.length) (h : (fs.getD i zeroF).id ≠ (fs.getD 0 zeroF).id ∨ (fs.getD i zeroF).ct ≠ fs.length ∨ (fs.getD i zeroF).ix ≠ i) : joinF fs = (⟨#[]⟩, 3) := by
  refine join_bad (k := i) hi ?_
  cases hq : okAt (fs.getD 0 zeroF).id fs.length i (fs.getD i zeroF) with
  | false => rfl
  | true =>
    obtain ⟨_, q2, q3, q4⟩ := okAt_iff.1 hq
    rcases h with h | h | h
    · exact absurd q2 h
    · exact absurd q3 h
    · exact absurd q4 h
theorem Cutd.tail (h : Cutd s id k m) : joinF ((parts s id k m).drop 1) = (⟨#[]⟩, 3) := by
  have hl : ((parts s id k m).drop 1).length = m - 1 := by rw [List.length_drop, parts_len]
  by_cases h1 : m = 1
  · exact join_many (.inl (by rw [hl, h1]))
  · have h2 := h.m1
    refine join_off (i := 0) (by rw [hl]; omega) (.inr (.inr ?_))
    have : ((parts s id k m).drop 1).getD 0 zeroF = partAt s id k m 1 := by
      rw [← parts_getD s id k m 1 (by omega)]
      simp [List.getD]
    rw [this]
    show ((1 : Nat) : Int) ≠ ((0 : Nat) : Int)
    omega
theorem Cutd.more (h : Cutd s id k m) (f : Fr) : joinF (parts s id k m ++ [f]) = (⟨#[]⟩, 3) := by
  have h1 := h.m1
  refine join_off (i := 0) (by simp) (.inr (.inl ?_))
  have : (parts s id k m ++ [f]).getD 0 zeroF = partAt s id k m 0 := by
    rw [← parts_getD s id k m 0 (by omega)]
    simp only [List.getD_eq_getElem?_getD]
    rw [List.getElem?_append_left (by rw [parts_len]; omega)]
  rw [this, List.length_append, parts_len]
  show ((m : Nat) : Int) ≠ ((m + 1 : Nat) : Int)
  omega
theorem getD_set (fs : List Fr) (i j : Nat) (f : Fr) (hi : i < fs.length) : (fs.set i f).getD j zeroF = if i = j then f else fs.getD j zeroF := by
  simp only [List.getD_eq_getElem?_getD, List.getElem?_set]
  by_cases h : i = j
  · rw [if_pos h, if_pos h, if_pos hi]; rfl
  · rw [if_neg h, if_neg h]
/-- One part changed: another message's, another count, another place. -/
theorem Cutd.setId (h : Cutd s id k m) (h2 : 2 ≤ m) {i : Nat} (hi : i < m) {x : Int} (hx : x ≠ id) : joinF ((parts s id k m).set i { partAt s id k m i with id := x }) = (⟨#[]⟩, 3) := by
  have hl : i < (parts s id k m).length := by rw [parts_len]; exact hi
  by_cases h0 : i = 0
  · refine join_off (i := 1) (by rw [List.length_set, parts_len]; omega) (.inl ?_)
    rw [getD_set _ _ _ _ hl, getD_set _ _ _ _ hl, if_neg (by omega), if_pos h0, parts_getD _ _ _ _ _ (by omega)]
    exact fun e => hx e.symm
  · refine join_off (i := i) (by rw [List.length_set, parts_len]; omega) (.inl ?_)
    rw [getD_set _ _ _ _ hl, getD_set _ _ _ _ hl, if_pos rfl, if_neg h0, parts_getD _ _ _ _ _ (by omega)]
    exact hx
theorem Cutd.setCt (h : Cutd s id k m) {i : Nat} (hi : i < m) {x : Int} (hx : x ≠ m) : joinF ((parts s id k m).set i { partAt s id k m i with ct := x }) = (⟨#[]⟩, 3) := by
  have hl : i < (parts s id k m).length := by rw [parts_len]; exact hi
  refine join_off (i := i) (by rw [List.length_set, parts_len]; omega) (.inr (.inl ?_))
  rw [getD_set _ _ _ _ hl, if_pos rfl, List.length_set, parts_len]
  exact hx
theorem Cutd.setIx (h : Cutd s id k m) {i : Nat} (hi : i < m) {x : Int} (hx : x ≠ i) : joinF ((parts s id k m).set i { partAt s id k m i with ix := x }) = (⟨#[]⟩, 3) := by
  have hl : i < (parts s id k m).length := by rw [parts_len]; exact hi
  refine join_off (i := i) (by rw [List.length_set, parts_len]; omega) (.inr (.inr ?_))
  rw [getD_set _ _ _ _ hl, if_pos rfl]
  exact hx
theorem Cutd.swap (h : Cutd s id k m) {i j : Nat} (hi : i < m) (hj : j < m) (hn : i ≠ j) : joinF (((parts s id k m).set i (partAt s id k m j)).set j (partAt s id k m i)) = (⟨#[]⟩, 3) := by
  have hl : i < (parts s id k m).length := by rw [parts_len]; exact hi
  have hl2 : j < ((parts s id k m).set i (partAt s id k m j)).length := by rw [List.length_set, parts_len]; exact hj
  refine join_off (i := i) (by rw [List.length_set, List.length_set, parts_len]; omega) (.inr (.inr ?_))
  rw [getD_set _ _ _ _ hl2, if_neg (fun e => hn e.symm), getD_set _ _ _ _ hl, if_pos rfl]
  show ((j : Nat) : Int) ≠ ((i : Nat) : Int)
  omega
theorem set_self (fs : List Fr) (i : Nat) (h : i < fs.length) : fs.set i (fs.getD i zeroF) = fs := by
  apply List.ext_getElem?
  intro j
  rw [List.getElem?_set]
  by_cases hj : i = j
  · subst hj
    rw [if_pos rfl, if_pos h]
    simp [List.getD, h]
  · rw [if_neg hj]
end
end Go.Proofs.Ytjcgckhheegonaa
