/- A part added to a pool that holds other messages too: the first of its message, a further one, the last one, a whole one. No program is named here. -/
import Derived.Test.YtjcgckhheegonaaPoolJ
namespace Go.Proofs.Ytjcgckhheegonaa
set_option linter.unusedVariables false
set_option linter.unusedSimpArgs false
section
variable {id now slots bytes : Int} {pre post l : List Ms} {m : Ms} {f : Fr}
def Not (id : Int) (l : List Ms) : Prop := ∀ x, x ∈ l → (headM x).id ≠ id
def Young (now : Int) (l : List Ms) : Prop := ∀ x, x ∈ l → oldM now x = false
theorem find_out (h : Not id l) : findM id l = none := List.find?_eq_none.2 fun x hx => by simpa using h x hx
theorem find_in (hp : Not id pre) (hm : (headM m).id = id) : findM id (pre ++ m :: post) = some m := by
  unfold findM
  rw [List.find?_append]
  have : List.find? (fun m => (headM m).id == id) pre = none := find_out hp
  rw [this, Option.none_or, List.find?_cons_of_pos (by simpa using hm)]
theorem put_out (h : Not id l) : putM id f l = l := by
  unfold putM
  have : ∀ x, x ∈ l → (if (headM x).id == id then (⟨x.parts ++ [f], x.since⟩ : Ms) else x) = x := fun x hx => if_neg (by simpa using h x hx)
  rw [List.map_congr_left this]
  exact List.map_id _
theorem put_in (hp : Not id pre) (hq : Not id post) (hm : (headM m).id = id) : putM id f (pre ++ m :: post) = pre ++ ⟨m.parts ++ [f], m.since⟩ :: post := by
  have h1 : putM id f (pre ++ m :: post) = putM id f pre ++ (if (headM m).id == id then (⟨m.parts ++ [f], m.since⟩ : Ms) else m) :: putM id f post := by
    unfold putM
    rw [List.map_append, List.map_cons]
  rw [h1, put_out hp, put_out hq, if_pos (by simpa using hm)]
theorem wo_out (h : Not id l) : wo id l = l := List.filter_eq_self.2 fun x hx => by simpa using h x hx
theorem wo_in (hp : Not id pre) (hq : Not id post) (hm : (headM m).id = id) : wo id (pre ++ m :: post) = pre ++ post := by
  have h1 := wo_out hp
  have h2 := wo_out hq
  unfold wo at h1 h2 ⊢
  rw [List.filter_append, List.filter_cons, if_neg (by simpa using hm), h1, h2]
theorem exp_young (h : Young now l) : expM now l = l := List.filter_eq_self.2 fun x hx => by simp [h x hx]
/-- A whole one passes. -/
theorem add_whole (hf : rightF f = true) (hc : f.ct = 1) (hy : Young now l) : addP f now ⟨l, slots, bytes⟩ = (⟨l, slots, bytes⟩, f.s, true, 0) := by
  unfold addP
  rw [if_neg (by rw [hf]; decide), if_pos (by simpa using hc)]
  simp only
  rw [exp_young hy]
/-- The first part of a message. -/
theorem add_begin (hf : rightF f = true) (hc : f.ct ≠ 1) (hy : Young now l) (hn : Not f.id l) (h1 : (l.length : Int) < slots) (h2 : ((heldM l + f.s.size : Nat) : Int) ≤ bytes) :
    addP f now ⟨l, slots, bytes⟩ = (⟨l ++ [⟨[f], now⟩], slots, bytes⟩, ⟨#[]⟩, false, 0) := by
  unfold addP
  rw [if_neg (by rw [hf]; decide), if_neg (by simpa using hc)]
  simp only
  rw [exp_young hy]
  have key : addL f now slots bytes l = (l ++ [⟨[f], now⟩], ⟨#[]⟩, false, 0) := by
    unfold addL
    rw [find_out hn]
    simp only
    rw [if_neg (by omega)]
  rw [key]
/-- A further one. -/
theorem add_more (hf : rightF f = true) (hc : f.ct ≠ 1) (hy : Young now (pre ++ m :: post)) (hp : Not f.id pre) (hq : Not f.id post) (hm : (headM m).id = f.id) (hct : (headM m).ct = f.ct) (hix : ∀ g, g ∈ m.parts → g.ix ≠ f.ix)
    (h2 : ((heldM (pre ++ m :: post) + f.s.size : Nat) : Int) ≤ bytes) (h3 : ((m.parts.length + 1 : Nat) : Int) < f.ct) :
    addP f now ⟨pre ++ m :: post, slots, bytes⟩ = (⟨pre ++ ⟨m.parts ++ [f], m.since⟩ :: post, slots, bytes⟩, ⟨#[]⟩, false, 0) := by
  unfold addP
  rw [if_neg (by rw [hf]; decide), if_neg (by simpa using hc)]
  simp only
  rw [exp_young hy]
  have key : addL f now slots bytes (pre ++ m :: post) = (pre ++ ⟨m.parts ++ [f], m.since⟩ :: post, ⟨#[]⟩, false, 0) := by
    unfold addL
    rw [find_in hp hm]
    simp only
    rw [if_neg (by rw [hct]; simp), if_neg (by
      intro q
      obtain ⟨g, hg, e⟩ := List.any_eq_true.1 q
      exact hix g hg (by simpa using e)), if_neg (by omega), if_pos h3, put_in hp hq hm]
  rw [key]
/-- The last one. -/
theorem add_end (hf : rightF f = true) (hc : f.ct ≠ 1) (hy : Young now (pre ++ m :: post)) (hp : Not f.id pre) (hq : Not f.id post) (hm : (headM m).id = f.id) (hct : (headM m).ct = f.ct) (hix : ∀ g, g ∈ m.parts → g.ix ≠ f.ix)
    (h2 : ((heldM (pre ++ m :: post) + f.s.size : Nat) : Int) ≤ bytes) (h3 : f.ct ≤ ((m.parts.length + 1 : Nat) : Int)) (h4 : (joinM (m.parts ++ [f])).size ≤ 4096) :
    addP f now ⟨pre ++ m :: post, slots, bytes⟩ = (⟨pre ++ post, slots, bytes⟩, joinM (m.parts ++ [f]), true, 0) := by
  unfold addP
  rw [if_neg (by rw [hf]; decide), if_neg (by simpa using hc)]
  simp only
  rw [exp_young hy]
  have key : addL f now slots bytes (pre ++ m :: post) = (pre ++ post, joinM (m.parts ++ [f]), true, 0) := by
    unfold addL
    rw [find_in hp hm]
    simp only
    rw [if_neg (by rw [hct]; simp), if_neg (by
      intro q
      obtain ⟨g, hg, e⟩ := List.any_eq_true.1 q
      exact hix g hg (by simpa using e)), if_neg (by omega), if_neg (by omega), if_neg (by omega), wo_in hp hq hm]
  rw [key]
end
/-! ### Parts of one cut text, in any order -/
section
variable {s : ByteArray} {id : Int} {k m : Nat} {ps : List Fr}
/-- Some of a text's parts, no part twice. -/
structure Some (s : ByteArray) (id : Int) (k m : Nat) (ps : List Fr) : Prop where
  from_ : ∀ f, f ∈ ps → ∃ i, i < m ∧ f = partAt s id k m i
  once : (ps.map Fr.ix).Nodup
theorem Some.head (h : Some s id k m ps) (h0 : ps ≠ []) (since : Int) : (headM ⟨ps, since⟩).id = id ∧ (headM ⟨ps, since⟩).ct = (m : Int) := by
  cases ps with
  | nil => exact absurd rfl h0
  | cons f r =>
    obtain ⟨i, _, e⟩ := h.from_ f (by simp)
    have : headM ⟨f :: r, since⟩ = f := rfl
    rw [this, e]
    exact ⟨rfl, rfl⟩
theorem nodup_le : ∀ (m : Nat) (l : List Int), l.Nodup → (∀ x, x ∈ l → 0 ≤ x ∧ x < (m : Int)) → l.length ≤ m
  | 0, l, _, h => by
    cases l with
    | nil => simp
    | cons x r => have := h x (by simp); omega
  | m + 1, l, hn, h => by
    by_cases hx : ((m : Nat) : Int) ∈ l
    · have e := nodup_le m (l.erase ((m : Nat) : Int)) (hn.erase _) (fun x q => by
        have q' := (hn.mem_erase_iff).1 q
        have := h x q'.2
        have := q'.1
        omega)
      rw [List.length_erase_of_mem hx] at e
      omega
    · have e := nodup_le m l hn (fun x q => by
        have := h x q
        have : x ≠ ((m : Nat) : Int) := fun e => hx (e ▸ q)
        omega)
      omega
theorem Some.le (h : Some s id k m ps) : ps.length ≤ m := by
  have := nodup_le m (ps.map Fr.ix) h.once (fun x hx => by
    obtain ⟨f, hf, rfl⟩ := List.mem_map.1 hx
    obtain ⟨i, hi, e⟩ := h.from_ f hf
    have e' : f.ix = ((i : Nat) : Int) := by rw [e]; rfl
    omega)
  simpa using this
end
end Go.Proofs.Ytjcgckhheegonaa
