/- Alarms that rise: a row of them is fixed by what it holds; what drops, is put in and is taken from the front of them, against a heap of the same alarms. No program is named here. -/
import Derived.Test.YtcnfchjiiglijaaAlarmD
namespace Go.Proofs.Ytcnfchjiiglijaa
set_option linter.unusedVariables false
set_option linter.unusedSimpArgs false
set_option maxRecDepth 20000

def Srt (L : List On) : Prop := L.Pairwise (fun a b => ltO a b = true)
def NoTwice (L : List On) : Prop := (L.map On.id).Nodup
theorem ltO_irrefl (a : On) : ltO a a = false := leP_not (leP_refl a)
theorem ltO_asymm {a b : On} (h : ltO a b = true) : ltO b a = false := leP_not (ltO_le h)
theorem ltO_trans {a b c : On} (h : ltO a b = true) (k : ltO b c = true) : ltO a c = true := by
  have h1 := ltO_true.1 h
  have k1 := ltO_true.1 k
  exact ltO_true.2 (by omega)
theorem srt_unique : ∀ {A B : List On}, A.Perm B → Srt A → Srt B → A = B := by
  intro A
  induction A with
  | nil => intro B hp _ _; exact hp.nil_eq
  | cons a r ih =>
    intro B hp hA hB
    cases B with
    | nil => exact absurd hp.symm.nil_eq (by simp)
    | cons b s =>
      have ea : a = b := by
        have h1 : a ∈ b :: s := hp.mem_iff.1 (by simp)
        have h2 : b ∈ a :: r := hp.mem_iff.2 (by simp)
        rcases List.mem_cons.1 h1 with q | q
        · exact q
        · rcases List.mem_cons.1 h2 with q2 | q2
          · exact q2.symm
          · have l1 := (List.pairwise_cons.1 hB).1 a q
            have l2 := (List.pairwise_cons.1 hA).1 b q2
            rw [ltO_asymm l1] at l2
            cases l2
      subst ea
      rw [ih hp.cons_inv (List.pairwise_cons.1 hA).2 (List.pairwise_cons.1 hB).2]
theorem nt_perm {A B : List On} (h : A.Perm B) (k : NoTwice A) : NoTwice B := (h.map On.id).nodup_iff.1 k

/-! ### Found -/
theorem gt_mem {L : List On} {i : Nat} (h : i < L.length) : gt L i ∈ L := by rw [gt_eq h]; exact List.getElem_mem h
theorem mem_gt {L : List On} {o : On} (h : o ∈ L) : ∃ i, i < L.length ∧ gt L i = o := by
  obtain ⟨i, hi, e⟩ := List.mem_iff_getElem.1 h
  exact ⟨i, hi, by rw [gt_eq hi]; exact e⟩
theorem has_iff {id : Int} {L : List On} : hasD id L = true ↔ ∃ o, o ∈ L ∧ o.id = id := by
  unfold hasD
  rw [decide_eq_true_eq]
  constructor
  · intro h
    exact ⟨_, gt_mem h, by simpa using found_at h⟩
  · rintro ⟨o, ho, e⟩
    exact List.findIdx_lt_length_of_exists ⟨o, ho, by simp [e]⟩
theorem has_perm {id : Int} {H L : List On} (h : H.Perm L) : hasD id H = hasD id L := by
  have : hasD id H = true ↔ hasD id L = true := by
    rw [has_iff, has_iff]
    exact ⟨fun ⟨o, ho, e⟩ => ⟨o, h.mem_iff.1 ho, e⟩, fun ⟨o, ho, e⟩ => ⟨o, h.mem_iff.2 ho, e⟩⟩
  exact Bool.eq_iff_iff.2 this
theorem nt_one {L : List On} {a b : On} (h : NoTwice L) (ha : a ∈ L) (hb : b ∈ L) (e : a.id = b.id) : a = b := by
  induction L with
  | nil => cases ha
  | cons o r ih =>
    unfold NoTwice at h
    rw [List.map_cons, List.nodup_cons] at h
    rcases List.mem_cons.1 ha with p | p <;> rcases List.mem_cons.1 hb with q | q
    · rw [p, q]
    · exact absurd (List.mem_map.2 ⟨b, q, by rw [← e, p]⟩) h.1
    · exact absurd (List.mem_map.2 ⟨a, p, by rw [e, q]⟩) h.1
    · exact ih h.2 p q

/-! ### Dropped -/
theorem drop_none {id : Int} {L : List On} (h : hasD id L = false) : dropD id L = L := by
  unfold hasD at h
  unfold dropD
  rw [if_neg (by simpa using h)]
theorem drop_split {id : Int} {L : List On} (h : hasD id L = true) : (gt L (foundD id L) :: dropD id L).Perm L := by
  unfold hasD at h
  have h := of_decide_eq_true h
  unfold dropD
  rw [if_pos h, gt_eq h]
  have e : L = L.take (foundD id L) ++ L[foundD id L] :: L.drop (foundD id L + 1) := by rw [List.getElem_cons_drop, List.take_append_drop]
  exact List.perm_middle.symm.trans (List.Perm.of_eq e.symm)
theorem drop_sub (id : Int) (L : List On) : (dropD id L).Sublist L := by
  unfold dropD
  split
  · rename_i h
    have e : L.take (foundD id L) ++ L[foundD id L] :: L.drop (foundD id L + 1) = L := by rw [List.getElem_cons_drop, List.take_append_drop]
    exact (congrArg (fun X => (L.take (foundD id L) ++ L.drop (foundD id L + 1)).Sublist X) e).mp ((List.Sublist.refl _).append (List.sublist_cons_self _ _))
  · exact List.Sublist.refl _
theorem drop_srt {id : Int} {L : List On} (h : Srt L) : Srt (dropD id L) := h.sublist (drop_sub id L)
theorem drop_nt {id : Int} {L : List On} (h : NoTwice L) : NoTwice (dropD id L) := List.Nodup.sublist ((drop_sub id L).map On.id) h
theorem drop_gone {id : Int} {L : List On} (h : NoTwice L) : hasD id (dropD id L) = false := by
  cases hq : hasD id L with
  | false => rw [drop_none hq]; exact hq
  | true =>
    cases hr : hasD id (dropD id L) with
    | false => rfl
    | true =>
      obtain ⟨o, ho, e⟩ := has_iff.1 hr
      have hn := nt_perm (drop_split hq).symm h
      unfold NoTwice at hn
      rw [List.map_cons, List.nodup_cons] at hn
      have hf : (gt L (foundD id L)).id = id := by simpa using found_at (of_decide_eq_true hq)
      exact absurd (List.mem_map.2 ⟨o, ho, by rw [e, hf]⟩) hn.1
/-- What is left of a heap when one of its alarms is taken is what the rising row is without it. -/
theorem drop_of {id : Int} {H R L : List On} {o : On} (hp : H.Perm L) (hs : (o :: R).Perm H) (ho : o.id = id) (hn : NoTwice L) : R.Perm (dropD id L) := by
  have hm : o ∈ L := (hs.trans hp).mem_iff.1 (by simp)
  have hq : hasD id L = true := has_iff.2 ⟨o, hm, ho⟩
  have hf : (gt L (foundD id L)).id = id := by simpa using found_at (of_decide_eq_true hq)
  have e : gt L (foundD id L) = o := nt_one hn (gt_mem (of_decide_eq_true hq)) hm (by rw [hf, ho])
  have hd := drop_split hq
  rw [e] at hd
  exact ((hs.trans hp).trans hd.symm).cons_inv

/-! ### Put in -/
def insS (x : On) : List On → List On
  | [] => [x]
  | o :: r => if ltO x o = true then x :: o :: r else o :: insS x r
theorem insD_eq (x : On) (L : List On) : insD x L = insS x L := by
  have h1 : ∀ (L a : List On), L.foldl (insStep x) (a, true) = (a ++ L, true) := by
    intro L
    induction L with
    | nil => intro a; simp
    | cons o r ih =>
      intro a
      rw [List.foldl_cons]
      have e : insStep x (a, true) o = (a ++ [o], true) := rfl
      rw [e, ih]; simp
  have h2 : ∀ (L a : List On), (if (L.foldl (insStep x) (a, false)).2 = true then (L.foldl (insStep x) (a, false)).1 else (L.foldl (insStep x) (a, false)).1 ++ [x]) = a ++ insS x L := by
    intro L
    induction L with
    | nil => intro a; simp [insS]
    | cons o r ih =>
      intro a
      rw [List.foldl_cons]
      cases hb : ltO x o with
      | true =>
        have e : insStep x (a, false) o = (a ++ [x] ++ [o], true) := by simp [insStep, hb]
        rw [e, h1]; simp [insS, hb]
      | false =>
        have e : insStep x (a, false) o = (a ++ [o], false) := by simp [insStep, hb]
        rw [e, ih]; simp [insS, hb]
  have := h2 L []
  rw [List.nil_append] at this
  rw [← this]
  unfold insD insGo
  cases (L.foldl (insStep x) ([], false)).2 <;> rfl
theorem insS_perm (x : On) : ∀ L : List On, (insS x L).Perm (x :: L)
  | [] => .refl _
  | o :: r => by
    unfold insS
    split
    · exact .refl _
    · exact ((insS_perm x r).cons o).trans (.swap x o r)
theorem ins_perm (x : On) (L : List On) : (insD x L).Perm (x :: L) := by rw [insD_eq]; exact insS_perm x L
theorem lt_of_not {x o : On} (h : ltO x o = false) (k : x.id ≠ o.id) : ltO o x = true := by
  have h1 := ltO_not h
  unfold leP at h1
  exact ltO_true.2 (by omega)
theorem insS_srt {x : On} : ∀ {L : List On}, Srt L → (∀ o, o ∈ L → x.id ≠ o.id) → Srt (insS x L)
  | [], _, _ => List.pairwise_singleton _ _
  | o :: r, h, hx => by
    have h' := List.pairwise_cons.1 h
    unfold insS
    split
    · rename_i q
      refine List.pairwise_cons.2 ⟨fun y hy => ?_, h⟩
      rcases List.mem_cons.1 hy with e | e
      · rw [e]; exact q
      · exact ltO_trans q (h'.1 y e)
    · rename_i q
      have q : ltO x o = false := by simpa using q
      refine List.pairwise_cons.2 ⟨fun y hy => ?_, insS_srt h'.2 (fun y hy => hx y (by simp [hy]))⟩
      rcases List.mem_cons.1 ((insS_perm x r).mem_iff.1 hy) with e | e
      · rw [e]; exact lt_of_not q (hx o (by simp))
      · exact h'.1 y e
theorem has_not {id : Int} {L : List On} (h : hasD id L = false) : ∀ o, o ∈ L → id ≠ o.id := fun o ho e => by
  rw [has_iff.2 ⟨o, ho, e.symm⟩] at h; cases h
theorem ins_srt {x : On} {L : List On} (h : Srt L) (hx : hasD x.id L = false) : Srt (insD x L) := by
  rw [insD_eq]; exact insS_srt h (has_not hx)
theorem ins_nt {x : On} {L : List On} (h : NoTwice L) (hx : hasD x.id L = false) : NoTwice (insD x L) := by
  refine nt_perm (ins_perm x L).symm ?_
  unfold NoTwice
  rw [List.map_cons, List.nodup_cons]
  refine ⟨fun q => ?_, h⟩
  obtain ⟨o, ho, e⟩ := List.mem_map.1 q
  exact has_not hx o ho e.symm

/-! ### A heap beside a rising row -/
theorem set_split {H : List On} {i : Nat} (hi : i < H.length) (x : On) : ∃ R, (gt H i :: R).Perm H ∧ (x :: R).Perm (H.set i x) := by
  refine ⟨H.take i ++ H.drop (i + 1), ?_, ?_⟩
  · rw [gt_eq hi]
    have e : H = H.take i ++ H[i] :: H.drop (i + 1) := by rw [List.getElem_cons_drop, List.take_append_drop]
    exact List.perm_middle.symm.trans (List.Perm.of_eq e.symm)
  · rw [List.set_eq_take_append_cons_drop, if_pos hi]
    exact List.perm_middle.symm
theorem head_is {H L : List On} (h : HeapOn H.length H) (hp : H.Perm L) (hs : Srt L) (h0 : 0 < L.length) : gt H 0 = gt L 0 := by
  have hl := hp.length_eq
  have m1 : gt H 0 ∈ L := hp.mem_iff.1 (gt_mem (by omega))
  have m2 : gt L 0 ∈ H := hp.mem_iff.2 (gt_mem h0)
  obtain ⟨k, hk, ek⟩ := mem_gt m2
  have l1 : leP (gt H 0) (gt L 0) := by rw [← ek]; exact heap_root h k hk
  cases L with
  | nil => simp at h0
  | cons o r =>
    have e0 : gt (o :: r) 0 = o := rfl
    rw [e0] at l1 ⊢
    rcases List.mem_cons.1 m1 with q | q
    · exact q
    · exact leP_antisymm l1 (ltO_le ((List.pairwise_cons.1 hs).1 _ q))

/-! ### Due, put: what they leave -/
theorem due_len (now : Int) (L : List On) : (dueD now L).length + (restD now L).length = L.length := by
  unfold dueD restD
  rw [List.length_map, ← List.length_append, List.takeWhile_append_dropWhile]
theorem srt_head {o : On} {r : List On} (h : Srt (o :: r)) {x : On} (hx : x ∈ o :: r) : o.at_ ≤ x.at_ := by
  rcases List.mem_cons.1 hx with e | e
  · rw [e]; exact Int.le_refl _
  · have := ltO_true.1 ((List.pairwise_cons.1 h).1 x e)
    omega
theorem due_none {now : Int} {o : On} {r : List On} (h : now < o.at_) : dueD now (o :: r) = [] ∧ restD now (o :: r) = o :: r := by
  have q : ¬ o.at_ ≤ now := by omega
  exact ⟨by simp [dueD, List.takeWhile, q], by simp [restD, List.dropWhile, q]⟩
theorem due_some {now : Int} {o : On} {r : List On} (h : o.at_ ≤ now) : dueD now (o :: r) = o.id :: dueD now r ∧ restD now (o :: r) = restD now r :=
  ⟨by simp [dueD, List.takeWhile, h], by simp [restD, List.dropWhile, h]⟩
theorem due_all {now : Int} : ∀ {L : List On}, (∀ x, x ∈ L → x.at_ ≤ now) → dueD now L = L.map On.id ∧ restD now L = []
  | [], _ => ⟨rfl, rfl⟩
  | o :: r, h => by
    have := due_some (r := r) (h o (by simp))
    have k := due_all (L := r) (fun x hx => h x (by simp [hx]))
    rw [this.1, this.2, k.1, k.2]
    exact ⟨rfl, rfl⟩
theorem rest_suffix (now : Int) (L : List On) : (restD now L).Sublist L := List.dropWhile_sublist _
theorem rest_srt {now : Int} {L : List On} (h : Srt L) : Srt (restD now L) := h.sublist (rest_suffix now L)
theorem rest_nt {now : Int} {L : List On} (h : NoTwice L) : NoTwice (restD now L) := List.Nodup.sublist ((rest_suffix now L).map On.id) h
theorem rest_late {now : Int} : ∀ {L : List On}, Srt L → ∀ x, x ∈ restD now L → now < x.at_
  | [], _, x, hx => by cases hx
  | o :: r, h, x, hx => by
    by_cases q : o.at_ ≤ now
    · rw [(due_some q).2] at hx
      exact rest_late (List.pairwise_cons.1 h).2 x hx
    · rw [(due_none (by omega)).2] at hx
      have := srt_head h hx
      omega
theorem put_full {most id at_ : Int} {L : List On} (h : hasD id L = false) (k : max 0 most ≤ (L.length : Int)) : putD most id at_ L = (L, 8) := by
  unfold putD; rw [if_pos ⟨h, k⟩]
theorem put_fits {most id at_ : Int} {L : List On} (h : hasD id L = true ∨ (L.length : Int) < max 0 most) : putD most id at_ L = (insD ⟨id, at_⟩ (dropD id L), 0) := by
  unfold putD
  rw [if_neg]
  rintro ⟨a, b⟩
  rcases h with q | q
  · rw [a] at q; cases q
  · omega
theorem put_len {id at_ : Int} {L : List On} : (insD ⟨id, at_⟩ (dropD id L)).length = L.length + (if hasD id L = true then 0 else 1) := by
  rw [(ins_perm _ _).length_eq, List.length_cons]
  cases hq : hasD id L with
  | true =>
    have := (drop_split hq).length_eq
    rw [List.length_cons] at this
    simp [this]
  | false => rw [drop_none hq]; simp
theorem put_mem {id at_ : Int} {L : List On} (hn : NoTwice L) (x : On) : x ∈ insD ⟨id, at_⟩ (dropD id L) ↔ x = ⟨id, at_⟩ ∨ (x ∈ L ∧ x.id ≠ id) := by
  rw [(ins_perm _ _).mem_iff, List.mem_cons]
  constructor
  · rintro (e | e)
    · exact Or.inl e
    · exact Or.inr ⟨(drop_sub id L).subset e, fun q => has_not (drop_gone (id := id) hn) x e q.symm⟩
  · rintro (e | ⟨e, q⟩)
    · exact Or.inl e
    · refine Or.inr ?_
      cases hq : hasD id L with
      | false => rw [drop_none hq]; exact e
      | true =>
        rcases List.mem_cons.1 ((drop_split hq).mem_iff.2 e) with p | p
        · have hf : (gt L (foundD id L)).id = id := by simpa using found_at (of_decide_eq_true hq)
          rw [← p] at hf
          exact absurd hf q
        · exact p
theorem put_srt {id at_ : Int} {L : List On} (h : Srt L) (hn : NoTwice L) : Srt (insD ⟨id, at_⟩ (dropD id L)) := ins_srt (drop_srt h) (drop_gone hn)
theorem put_nt {id at_ : Int} {L : List On} (hn : NoTwice L) : NoTwice (insD ⟨id, at_⟩ (dropD id L)) := ins_nt (drop_nt hn) (drop_gone hn)
end Go.Proofs.Ytcnfchjiiglijaa
