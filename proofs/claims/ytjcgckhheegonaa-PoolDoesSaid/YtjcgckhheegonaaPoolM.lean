/- What a pool answers, and what it holds, in plain lists. No program is named here. -/
import Derived.Test.YtjcgckhheegonaaFragM
namespace Go.Proofs.Ytjcgckhheegonaa
set_option linter.unusedVariables false
set_option linter.unusedSimpArgs false

/-- A message that is not whole: the parts that came, and when the first one did. -/
structure Ms where
  parts : List Fr
  since : Int
/-- What a pool holds; how many messages, how many bytes at most. -/
structure Pl where
  l : List Ms
  slots : Int
  bytes : Int
def sumS (fs : List Fr) : Nat := fs.foldr (fun f n => f.s.size + n) 0
def heldM (l : List Ms) : Nat := l.foldr (fun m n => sumS m.parts + n) 0
def headM (m : Ms) : Fr := m.parts.getD 0 zeroF
def oldM (now : Int) (m : Ms) : Bool := decide (m.since < now) && decide (50 < now - m.since)
def expM (now : Int) (l : List Ms) : List Ms := l.filter (fun m => !oldM now m)
def expN (now : Int) (l : List Ms) : Nat := l.countP (oldM now)
def findM (id : Int) (l : List Ms) : Option Ms := l.find? (fun m => (headM m).id == id)
def wo (id : Int) (l : List Ms) : List Ms := l.filter (fun m => !((headM m).id == id))
def putM (id : Int) (f : Fr) (l : List Ms) : List Ms := l.map (fun m => if (headM m).id == id then ⟨m.parts ++ [f], m.since⟩ else m)
def pick (fs : List Fr) (i : Nat) : ByteArray := fs.foldl (fun s f => if f.ix == (i : Int) then s ++ f.s else s) ⟨#[]⟩
def joinM (fs : List Fr) : ByteArray := (List.range fs.length).foldl (fun s i => s ++ pick fs i) ⟨#[]⟩
/-- A part that may be, with more than one of its kind, behind what is too old. -/
def addL (f : Fr) (now slots bytes : Int) (l : List Ms) : List Ms × (ByteArray × Bool × Nat) :=
  match findM f.id l with
  | none => if slots ≤ (l.length : Int) ∨ bytes < (heldM l + f.s.size : Nat) then (l, (⟨#[]⟩, false, 8)) else (l ++ [⟨[f], now⟩], (⟨#[]⟩, false, 0))
  | some m =>
    if ((headM m).ct == f.ct) = false then (l, (⟨#[]⟩, false, 3))
    else if m.parts.any (fun g => g.ix == f.ix) = true then (l, (⟨#[]⟩, false, 6))
    else if bytes < (heldM l + f.s.size : Nat) then (l, (⟨#[]⟩, false, 8))
    else if ((m.parts.length + 1 : Nat) : Int) < f.ct then (putM f.id f l, (⟨#[]⟩, false, 0))
    else if 4096 < (joinM (m.parts ++ [f])).size then (wo f.id l, (⟨#[]⟩, false, 4))
    else (wo f.id l, (joinM (m.parts ++ [f]), true, 0))
def addP (f : Fr) (now : Int) (P : Pl) : Pl × (ByteArray × Bool × Nat) :=
  if rightF f = false then (P, (⟨#[]⟩, false, 1))
  else if (f.ct == 1) = true then ({ P with l := expM now P.l }, (f.s, true, 0))
  else ({ P with l := (addL f now P.slots P.bytes (expM now P.l)).1 }, (addL f now P.slots P.bytes (expM now P.l)).2)
def expP (now : Int) (P : Pl) : Pl × Nat := ({ P with l := expM now P.l }, expN now P.l)
/-- A message that may be held. -/
structure Mok (m : Ms) : Prop where
  some_ : m.parts ≠ []
  right : ∀ f, f ∈ m.parts → rightF f = true
  one : ∀ f, f ∈ m.parts → f.id = (headM m).id ∧ f.ct = (headM m).ct
  apart : (m.parts.map Fr.ix).Nodup
  less : (m.parts.length : Int) < (headM m).ct
structure Pok (P : Pl) : Prop where
  s1 : 1 ≤ P.slots
  s2 : P.slots ≤ 16
  b1 : 1 ≤ P.bytes
  b2 : P.bytes ≤ 65536
  many : (P.l.length : Int) ≤ P.slots
  held : (heldM P.l : Int) ≤ P.bytes
  ids : (P.l.map (fun m => (headM m).id)).Nodup
  each : ∀ m, m ∈ P.l → Mok m
theorem sumS_app (a b : List Fr) : sumS (a ++ b) = sumS a + sumS b := by
  induction a with
  | nil => simp [sumS]
  | cons f r ih => simp only [sumS, List.cons_append, List.foldr_cons] at ih ⊢; omega
theorem heldM_app (a b : List Ms) : heldM (a ++ b) = heldM a + heldM b := by
  induction a with
  | nil => simp [heldM]
  | cons f r ih => simp only [heldM, List.cons_append, List.foldr_cons] at ih ⊢; omega
theorem heldM_cons (m : Ms) (r : List Ms) : heldM (m :: r) = sumS m.parts + heldM r := rfl
theorem heldM_filter (p : Ms → Bool) (l : List Ms) : heldM (l.filter p) ≤ heldM l := by
  induction l with
  | nil => exact Nat.le_refl _
  | cons m r ih =>
    rw [List.filter_cons]
    split
    · rw [heldM_cons, heldM_cons]; omega
    · rw [heldM_cons]; omega
theorem head_app {m : Ms} (h : m.parts ≠ []) (f : Fr) (s : Int) : headM ⟨m.parts ++ [f], s⟩ = headM m := by
  obtain ⟨ps, since⟩ := m
  cases ps with
  | nil => exact absurd rfl h
  | cons g r => rfl
theorem put_ids {id : Int} {f : Fr} {l : List Ms} (h : ∀ m, m ∈ l → m.parts ≠ []) : (putM id f l).map (fun m => (headM m).id) = l.map (fun m => (headM m).id) := by
  unfold putM
  rw [List.map_map]
  apply List.map_congr_left
  intro m hm
  simp only [Function.comp]
  split
  · rw [head_app (h m hm)]
  · rfl
theorem put_held {id : Int} {f : Fr} : ∀ {l : List Ms}, (l.map (fun m => (headM m).id)).Nodup → heldM (putM id f l) ≤ heldM l + f.s.size
  | [], _ => Nat.zero_le _
  | m :: r, h => by
    rw [List.map_cons, List.nodup_cons] at h
    have ih := put_held (id := id) (f := f) h.2
    unfold putM at ih ⊢
    rw [List.map_cons, heldM_cons, heldM_cons]
    by_cases q : ((headM m).id == id) = true
    · rw [if_pos q]
      have e : (List.map (fun m => if (headM m).id == id then (⟨m.parts ++ [f], m.since⟩ : Ms) else m) r) = r := by
        have : ∀ x, x ∈ r → (if (headM x).id == id then (⟨x.parts ++ [f], x.since⟩ : Ms) else x) = x := fun x hx => by
          rw [if_neg]
          intro e
          have e1 : (headM x).id = id := by simpa using e
          have e2 : (headM m).id = id := by simpa using q
          exact h.1 (List.mem_map.2 ⟨x, hx, by rw [e1, e2]⟩)
        rw [List.map_congr_left this]
        exact List.map_id _
      rw [e]
      show sumS (m.parts ++ [f]) + heldM r ≤ _
      rw [sumS_app]
      simp only [sumS, List.foldr_cons, List.foldr_nil]
      omega
    · rw [if_neg q]
      omega
theorem Pok.exp {P : Pl} (h : Pok P) (now : Int) : Pok { P with l := expM now P.l } := by
  refine ⟨h.s1, h.s2, h.b1, h.b2, ?_, ?_, ?_, fun m hm => h.each m ((List.mem_filter.1 hm).1)⟩
  · have := List.length_filter_le (fun m => !oldM now m) P.l
    have := h.many
    simp only [expM]; omega
  · have := heldM_filter (fun m => !oldM now m) P.l
    have := h.held
    simp only [expM]; omega
  · exact List.Nodup.sublist (List.Sublist.map _ (List.filter_sublist)) h.ids
theorem find_ok {id : Int} {l : List Ms} {m : Ms} (h : findM id l = some m) : m ∈ l ∧ (headM m).id = id :=
  ⟨List.mem_of_find?_eq_some h, by have := List.find?_some h; simpa using this⟩
theorem find_no {id : Int} {l : List Ms} (h : findM id l = none) : ∀ m, m ∈ l → (headM m).id ≠ id := fun m hm e => by
  have := List.find?_eq_none.1 h m hm
  simp [e] at this
theorem Pok.add {P : Pl} (h : Pok P) {f : Fr} (hf : rightF f = true) (hc : (f.ct == 1) = false) (now : Int) : Pok { P with l := (addL f now P.slots P.bytes P.l).1 } := by
  have hr := rightF_iff.1 hf
  have hc1 : f.ct ≠ 1 := by simpa using hc
  unfold addL
  cases hfi : findM f.id P.l with
  | none =>
    simp only
    split
    · exact h
    · rename_i hn
      rw [not_or] at hn
      refine ⟨h.s1, h.s2, h.b1, h.b2, ?_, ?_, ?_, fun m hm => ?_⟩
      · simp only [List.length_append, List.length_cons, List.length_nil]; omega
      · have h9 : heldM (P.l ++ [⟨[f], now⟩]) = heldM P.l + f.s.size := by rw [heldM_app]; rfl
        simp only [h9]
        omega
      · rw [List.map_append, List.map_cons, List.map_nil]
        refine List.nodup_append.2 ⟨h.ids, by simp, fun a ha b hb => ?_⟩
        simp only [List.mem_singleton] at hb
        obtain ⟨m, hm, rfl⟩ := List.mem_map.1 ha
        rw [hb]
        exact find_no hfi m hm
      · rw [List.mem_append, List.mem_singleton] at hm
        rcases hm with q | q
        · exact h.each m q
        · subst q
          exact ⟨by simp, fun g hg => by simp only [List.mem_singleton] at hg; rw [hg]; exact hf, fun g hg => by simp only [List.mem_singleton] at hg; rw [hg]; exact ⟨rfl, rfl⟩, by simp, by simp only [headM, List.getD_cons_zero, List.length_cons, List.length_nil]; omega⟩
  | some m =>
    obtain ⟨hm, hid⟩ := find_ok hfi
    have hmo := h.each m hm
    have hwo : Pok { P with l := wo f.id P.l } := by
      refine ⟨h.s1, h.s2, h.b1, h.b2, ?_, ?_, ?_, fun m hm => h.each m ((List.mem_filter.1 hm).1)⟩
      · have := List.length_filter_le (fun m => !((headM m).id == f.id)) P.l
        have := h.many
        simp only [wo]; omega
      · have := heldM_filter (fun m => !((headM m).id == f.id)) P.l
        have := h.held
        simp only [wo]; omega
      · exact List.Nodup.sublist (List.Sublist.map _ (List.filter_sublist)) h.ids
    simp only
    split
    · exact h
    · rename_i e1
      split
      · exact h
      · rename_i e2
        split
        · exact h
        · rename_i e3
          split
          · rename_i e4
            refine ⟨h.s1, h.s2, h.b1, h.b2, ?_, ?_, ?_, fun x hx => ?_⟩
            · simp only [putM, List.length_map]; exact h.many
            · have := put_held (id := f.id) (f := f) h.ids
              simp only at this ⊢
              omega
            · rw [put_ids (fun m hm => (h.each m hm).some_)]; exact h.ids
            · obtain ⟨y, hy, rfl⟩ := List.mem_map.1 hx
              have hyo := h.each y hy
              split
              · rename_i q
                have hyid : (headM y).id = f.id := by simpa using q
                have hym : y = m := by
                  have := h.ids
                  obtain ⟨i, hi, ei⟩ := List.mem_iff_getElem.1 hy
                  obtain ⟨j, hj, ej⟩ := List.mem_iff_getElem.1 hm
                  have hij := (List.getElem?_inj (l := P.l.map (fun m => (headM m).id)) (i := i) (j := j) (by simpa using hi) this).1 (by simp [hi, hj, ei, ej, hyid, hid])
                  subst hij
                  rw [← ei, ← ej]
                subst hym
                have hct : (headM y).ct = f.ct := by simpa using e1
                have hall : ∀ g, g ∈ y.parts → g.ix ≠ f.ix := fun g hg e => e2 (List.any_eq_true.2 ⟨g, hg, by simp [e]⟩)
                have hh := head_app hyo.some_ f y.since
                refine ⟨by simp, fun g hg => ?_, fun g hg => ?_, ?_, ?_⟩
                · rw [List.mem_append, List.mem_singleton] at hg
                  rcases hg with r | r
                  · exact hyo.right g r
                  · rw [r]; exact hf
                · rw [hh]
                  rw [List.mem_append, List.mem_singleton] at hg
                  rcases hg with r | r
                  · exact hyo.one g r
                  · rw [r, hct, hyid]; exact ⟨rfl, rfl⟩
                · rw [List.map_append, List.map_cons, List.map_nil]
                  refine List.nodup_append.2 ⟨hyo.apart, by simp, fun a ha b hb => ?_⟩
                  simp only [List.mem_singleton] at hb
                  obtain ⟨g, hg, rfl⟩ := List.mem_map.1 ha
                  rw [hb]
                  exact hall g hg
                · rw [hh, hct]
                  simp only [List.length_append, List.length_cons, List.length_nil]
                  omega
              · exact hyo
          · split
            · exact hwo
            · exact hwo
theorem Pok.addP {P : Pl} (h : Pok P) (f : Fr) (now : Int) : Pok (addP f now P).1 := by
  unfold Go.Proofs.Ytjcgckhheegonaa.addP
  split
  · exact h
  · rename_i hf
    split
    · exact h.exp now
    · rename_i hc
      exact (h.exp now).add (by simpa using hf) (by simpa using hc) now
end Go.Proofs.Ytjcgckhheegonaa
