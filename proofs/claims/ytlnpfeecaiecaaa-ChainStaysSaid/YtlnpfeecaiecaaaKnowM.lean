/- What one can make of terms that one knows, as a least set of names: what makes what at once, that sets grow, and when a list of names is that set. Rows of integers that are read: in memory that came in, or that the call owns. -/
import Derived.Test.YtlnpfeecaiecaaaDhM
import Derived.Test.YtlnpfeecaiecaaaKemM
import Derived.WalkKit
namespace Go.Proofs.Ytlnpfeecaiecaaa
open Go.RowKit
set_option linter.unusedVariables false
set_option linter.unusedSimpArgs false
set_option maxRecDepth 20000

/-- Is a name on a list. -/
def has (M : List Int) (n : Int) : Bool := decide (n ∈ M)
theorem has_iff {M : List Int} {n : Int} : has M n = true ↔ n ∈ M := by simp [has]
theorem has_not {M : List Int} {n : Int} : has M n = false ↔ n ∉ M := by simp [has]
theorem has_snoc (M : List Int) (a n : Int) : has (M ++ [a]) n = (has M n || decide (n = a)) := by simp [has, Bool.decide_or]

/-- Can a term be made, and is it there. -/
def hasT (L : List Tm) (C : Int → Bool) (t : Tm) : Bool := C (nameOf L t)
/-- The rule of a term: whether it is made at once of what can be made. -/
def ruleB (L : List Tm) (C : Int → Bool) (dh kem : Bool) (t : Tm) : Bool :=
  if t.K = 1 then true
  else if t.K = 3 ∨ t.K = 5 ∨ t.K = 9 then C t.A
  else if t.K = 8 ∨ t.K = 11 then C t.A && C t.B
  else if t.K = 10 then C t.A && C t.B && C t.C
  else if t.K = 4 then (C t.A && (C t.B || hasT L C (pubT t.B))) || (C t.B && hasT L C (pubT t.A)) || (dh && hasT L C (pubT t.A) && hasT L C (pubT t.B))
  else if t.K = 6 then C t.B && (C t.A || hasT L C (kpubT t.A))
  else if t.K = 7 then (C t.B && (C t.A || hasT L C (kpubT t.A))) || (hasT L C (boxT t.A t.B) && (C t.A || kem))
  else false
/-- What is found in a term: is that a name of it. -/
def openB (C : Int → Bool) (t : Tm) (n : Int) : Bool := (decide (t.K = 11) && (t.A == n || t.B == n)) || (decide (t.K = 10) && t.C == n && C t.A)

def Le (C D : Int → Bool) : Prop := ∀ n, C n = true → D n = true
theorem Le.refl (C : Int → Bool) : Le C C := fun _ h => h
theorem Le.trans {C D E : Int → Bool} (h : Le C D) (k : Le D E) : Le C E := fun n q => k n (h n q)
theorem hasT_mono {L : List Tm} {C D : Int → Bool} (h : Le C D) {t : Tm} (k : hasT L C t = true) : hasT L D t = true := h _ k
theorem ruleB_mono {L : List Tm} {C D : Int → Bool} (h : Le C D) {dh kem dh' kem' : Bool} (h1 : dh = true → dh' = true) (h2 : kem = true → kem' = true) {t : Tm} (k : ruleB L C dh kem t = true) : ruleB L D dh' kem' t = true := by
  have hA := h t.A
  have hB := h t.B
  have hC := h t.C
  have p1 := hasT_mono (L := L) h (t := pubT t.A)
  have p2 := hasT_mono (L := L) h (t := pubT t.B)
  have p3 := hasT_mono (L := L) h (t := kpubT t.A)
  have p4 := hasT_mono (L := L) h (t := boxT t.A t.B)
  unfold ruleB at k ⊢
  split
  · rfl
  · rename_i n1
    rw [if_neg n1] at k
    split
    · rename_i y2
      rw [if_pos y2] at k
      exact hA k
    · rename_i n2
      rw [if_neg n2] at k
      split
      · rename_i y2
        rw [if_pos y2] at k
        simp only [Bool.and_eq_true] at k ⊢
        exact ⟨hA k.1, hB k.2⟩
      · rename_i n3
        rw [if_neg n3] at k
        split
        · rename_i y2
          rw [if_pos y2] at k
          simp only [Bool.and_eq_true] at k ⊢
          exact ⟨⟨hA k.1.1, hB k.1.2⟩, hC k.2⟩
        · rename_i n4
          rw [if_neg n4] at k
          split
          · rename_i y2
            rw [if_pos y2] at k
            simp only [Bool.and_eq_true, Bool.or_eq_true] at k ⊢
            rcases k with (⟨k1, k2 | k2⟩ | ⟨k1, k2⟩) | ⟨⟨k1, k2⟩, k3⟩
            · exact .inl (.inl ⟨hA k1, .inl (hB k2)⟩)
            · exact .inl (.inl ⟨hA k1, .inr (p2 k2)⟩)
            · exact .inl (.inr ⟨hB k1, p1 k2⟩)
            · exact .inr ⟨⟨h1 k1, p1 k2⟩, p2 k3⟩
          · rename_i n5
            rw [if_neg n5] at k
            split
            · rename_i y2
              rw [if_pos y2] at k
              simp only [Bool.and_eq_true, Bool.or_eq_true] at k ⊢
              exact ⟨hB k.1, k.2.elim (fun q => .inl (hA q)) (fun q => .inr (p3 q))⟩
            · rename_i n6
              rw [if_neg n6] at k
              split
              · rename_i y2
                rw [if_pos y2] at k
                simp only [Bool.and_eq_true, Bool.or_eq_true] at k ⊢
                rcases k with ⟨k1, k2⟩ | ⟨k1, k2⟩
                · exact .inl ⟨hB k1, k2.elim (fun q => .inl (hA q)) (fun q => .inr (p3 q))⟩
                · exact .inr ⟨p4 k1, k2.elim (fun q => .inl (hA q)) (fun q => .inr (h2 q))⟩
              · rename_i n7
                rw [if_neg n7] at k
                exact k
theorem openB_mono {C D : Int → Bool} (h : Le C D) {t : Tm} {n : Int} (k : openB C t n = true) : openB D t n = true := by
  unfold openB at k ⊢
  simp only [Bool.and_eq_true, Bool.or_eq_true, decide_eq_true_eq] at k ⊢
  rcases k with k | ⟨⟨k1, k2⟩, k3⟩
  · exact .inl k
  · exact .inr ⟨⟨k1, k2⟩, h _ k3⟩

/-- The term of a name. -/
def tm (L : List Tm) (n : Int) : Tm := L.getD (n - 1).toNat zeroT
def InL (L : List Tm) (n : Int) : Prop := 1 ≤ n ∧ n ≤ (L.length : Int)
instance (L : List Tm) (n : Int) : Decidable (InL L n) := by unfold InL; infer_instance
theorem getT_tm {L : List Tm} {n : Int} (h : InL L n) : getT L n = (tm L n, true) := by unfold getT tm; rw [if_pos (show 1 ≤ n ∧ n ≤ (L.length : Int) from h)]
theorem tm_nat (L : List Tm) (k : Nat) : tm L ((k : Int) + 1) = L.getD k zeroT := by unfold tm; congr 1; omega

/-- What is made, or found, at once by who can make those of C is among those of D: for one name. -/
def Done (L : List Tm) (dh kem : Bool) (C D : Int → Bool) (n : Int) : Prop := (ruleB L C dh kem (tm L n) = true → D n = true) ∧ (C n = true → ∀ m, openB C (tm L n) m = true → D m = true)
def StepC (L : List Tm) (dh kem : Bool) (C D : Int → Bool) : Prop := ∀ n, InL L n → Done L dh kem C D n
theorem Done.up {L : List Tm} {dh kem : Bool} {C D E : Int → Bool} {n : Int} (h : Done L dh kem C D n) (k : Le D E) : Done L dh kem C E n := ⟨fun q => k _ (h.1 q), fun q m r => k _ (h.2 q m r)⟩
theorem Done.down {L : List Tm} {dh kem : Bool} {B C D : Int → Bool} {n : Int} (h : Done L dh kem C D n) (k : Le B C) : Done L dh kem B D n :=
  ⟨fun q => h.1 (ruleB_mono k id id q), fun q m r => h.2 (k _ q) m (openB_mono k r)⟩

/-- A set that has what is known, and what is made of its own. -/
structure Keeps (L : List Tm) (known : List Int) (dh kem : Bool) (C : Int → Bool) : Prop where
  zero : C 0 = false
  known : ∀ a, a ∈ known → C a = true
  step : StepC L dh kem C C
/-- The least one. -/
def Least (L : List Tm) (known : List Int) (dh kem : Bool) (C : Int → Bool) : Prop := Keeps L known dh kem C ∧ ∀ D, Keeps L known dh kem D → Le C D
theorem Least.one {L : List Tm} {known : List Int} {dh kem : Bool} {C D : Int → Bool} (h : Least L known dh kem C) (k : Least L known dh kem D) (n : Int) : C n = D n := by
  rw [Bool.eq_iff_iff]
  exact ⟨h.2 D k.1 n, k.2 C h.1 n⟩
/-- All names are such a set. -/
def allB (L : List Tm) (n : Int) : Bool := decide (InL L n)
theorem part_name {L : List Tm} (hf : Fit L) {n : Int} (hn : InL L n) (j : Nat) (hj : j < many (tm L n).K) : InL L (prt (tm L n).A (tm L n).B (tm L n).C j) := by
  have h := part_in hf (getT_tm hn) j hj
  have := hn.2
  exact ⟨h.1, by omega⟩
theorem many11 {t : Tm} (h : t.K = 11) : many t.K = 2 := by rw [h]; rfl
theorem many10 {t : Tm} (h : t.K = 10) : many t.K = 3 := by rw [h]; rfl
theorem open_in {L : List Tm} (hf : Fit L) {C : Int → Bool} {n m : Int} (hn : InL L n) (h : openB C (tm L n) m = true) : InL L m := by
  unfold openB at h
  simp only [Bool.and_eq_true, Bool.or_eq_true, decide_eq_true_eq, beq_iff_eq] at h
  rcases h with ⟨h1, h2 | h2⟩ | ⟨⟨h1, h2⟩, h3⟩
  · rw [← h2]; exact part_name hf hn 0 (by rw [many11 h1]; omega)
  · rw [← h2]; exact part_name hf hn 1 (by rw [many11 h1]; omega)
  · rw [← h2]; exact part_name hf hn 2 (by rw [many10 h1]; omega)
theorem allB_iff {L : List Tm} {n : Int} : allB L n = true ↔ InL L n := by simp [allB]
theorem allB_holds {L : List Tm} (hf : Fit L) {known : List Int} (hk : ∀ a, a ∈ known → InL L a) (dh kem : Bool) : Keeps L known dh kem (allB L) :=
  ⟨by simp [allB, InL], fun a ha => allB_iff.2 (hk a ha), fun n hn => ⟨fun _ => allB_iff.2 hn, fun _ m hm => allB_iff.2 (open_in hf hn hm)⟩⟩
theorem Least.inL {L : List Tm} (hf : Fit L) {known : List Int} (hk : ∀ a, a ∈ known → InL L a) {dh kem : Bool} {C : Int → Bool} (h : Least L known dh kem C) {n : Int} (hn : C n = true) : InL L n :=
  allB_iff.1 (h.2 _ (allB_holds hf hk dh kem) n hn)
/-- There is a least one. -/
theorem least_is {L : List Tm} (hf : Fit L) {known : List Int} (hk : ∀ a, a ∈ known → InL L a) (dh kem : Bool) : ∃ C, Least L known dh kem C := by
  classical
  have low : ∀ D, Keeps L known dh kem D → Le (fun n => decide (∀ E, Keeps L known dh kem E → E n = true)) D := fun D hD n hn => (of_decide_eq_true hn) D hD
  refine ⟨fun n => decide (∀ E, Keeps L known dh kem E → E n = true), ⟨?_, ?_, ?_⟩, low⟩
  · rw [decide_eq_false_iff_not]
    intro h
    have := h _ (allB_holds hf hk dh kem)
    simp [allB, InL] at this
  · intro a ha
    exact decide_eq_true fun E hE => hE.known a ha
  · intro n hn
    refine ⟨fun q => decide_eq_true fun E hE => (hE.step n hn).1 (ruleB_mono (low E hE) id id q), fun q m r => decide_eq_true fun E hE => (hE.step n hn).2 (low E hE n q) m (openB_mono (low E hE) r)⟩

/-- More is known, more is broken: no less is made. -/
theorem Least.more {L : List Tm} {known more : List Int} {dh kem dh' kem' : Bool} {C D : Int → Bool} (h : Least L known dh kem C) (k : Least L more dh' kem' D) (hs : ∀ a, a ∈ known → a ∈ more) (h1 : dh = true → dh' = true) (h2 : kem = true → kem' = true) : Le C D :=
  h.2 D ⟨k.1.zero, fun a ha => k.1.known a (hs a ha), fun n hn => ⟨fun q => (k.1.step n hn).1 (ruleB_mono (Le.refl _) h1 h2 q), (k.1.step n hn).2⟩⟩
/-- Who knows all that can be made can make no more. -/
theorem Least.again {L : List Tm} {known more : List Int} {dh kem : Bool} {C D : Int → Bool} (h : Least L known dh kem C) (k : Least L more dh kem D) (hm : ∀ a, a ∈ more ↔ C a = true) (n : Int) : C n = D n := by
  rw [Bool.eq_iff_iff]
  exact ⟨fun q => k.1.known n ((hm n).2 q), k.2 C ⟨h.1.zero, fun a ha => (hm a).1 ha, h.1.step⟩ n⟩

/-- The names of a set, rising. -/
def upto (n : Nat) : List Int := (List.range n).map fun i : Nat => (i : Int) + 1
def namesIn (L : List Tm) (C : Int → Bool) : List Int := (upto L.length).filter C
theorem mem_upto {n : Nat} {a : Int} : a ∈ upto n ↔ 1 ≤ a ∧ a ≤ (n : Int) := by
  simp only [upto, List.mem_map, List.mem_range]
  constructor
  · rintro ⟨i, hi, rfl⟩; omega
  · rintro ⟨h1, h2⟩; exact ⟨(a - 1).toNat, by omega, by omega⟩
theorem upto_succ (n : Nat) : upto (n + 1) = upto n ++ [(n : Int) + 1] := by simp [upto, List.range_succ]
theorem mem_namesIn {L : List Tm} {C : Int → Bool} {a : Int} : a ∈ namesIn L C ↔ InL L a ∧ C a = true := by simp [namesIn, mem_upto, InL]
theorem upto_rises (n : Nat) : (upto n).Pairwise (· < ·) := by
  unfold upto
  rw [List.pairwise_map]
  exact List.pairwise_lt_range.imp fun h => by omega
theorem namesIn_rises (L : List Tm) (C : Int → Bool) : (namesIn L C).Pairwise (· < ·) := (upto_rises L.length).filter C
theorem namesIn_len (L : List Tm) (C : Int → Bool) : (namesIn L C).length ≤ L.length := by
  have := List.length_filter_le C (upto L.length)
  simpa [namesIn, upto] using this
theorem namesIn_congr {L : List Tm} {C D : Int → Bool} (h : ∀ n, C n = D n) : namesIn L C = namesIn L D := by
  unfold namesIn; congr 1; exact funext h
/-- Two rows that rise and have the same members are one. -/
theorem rises_eq : ∀ {l m : List Int}, l.Pairwise (· < ·) → m.Pairwise (· < ·) → (∀ a, a ∈ l ↔ a ∈ m) → l = m
  | [], [], _, _, _ => rfl
  | [], b :: m, _, _, h => by have := (h b).2 (by simp); simp at this
  | a :: l, [], _, _, h => by have := (h a).1 (by simp); simp at this
  | a :: l, b :: m, h1, h2, h => by
    have a1 : ∀ x, x ∈ l → a < x := fun x hx => List.rel_of_pairwise_cons h1 hx
    have b1 : ∀ x, x ∈ m → b < x := fun x hx => List.rel_of_pairwise_cons h2 hx
    have e : a = b := by
      have p1 := (h a).1 (by simp)
      have p2 := (h b).2 (by simp)
      rcases List.mem_cons.1 p1 with q | q
      · exact q
      · rcases List.mem_cons.1 p2 with r | r
        · exact r.symm
        · have := a1 b r; have := b1 a q; omega
    subst e
    congr 1
    refine rises_eq (List.Pairwise.of_cons h1) (List.Pairwise.of_cons h2) fun x => ?_
    constructor
    · intro hx
      rcases List.mem_cons.1 ((h x).1 (List.mem_cons_of_mem _ hx)) with q | q
      · have := a1 x hx; omega
      · exact q
    · intro hx
      rcases List.mem_cons.1 ((h x).2 (List.mem_cons_of_mem _ hx)) with q | q
      · have := b1 x hx; omega
      · exact q
theorem sorted_names {L : List Tm} {C : Int → Bool} {M : List Int} (hn : M.Nodup) (hm : ∀ a, a ∈ M ↔ InL L a ∧ C a = true) : (M.mergeSort fun x y => decide (x ≤ y)) = namesIn L C := by
  refine rises_eq ?_ (namesIn_rises L C) fun a => by rw [List.mem_mergeSort, hm, mem_namesIn]
  have h1 : (M.mergeSort fun x y => decide (x ≤ y)).Pairwise (fun x y => decide (x ≤ y) = true) := List.pairwise_mergeSort (fun a b c h k => by simp at h k ⊢; omega) (fun a b => by simp; omega) M
  have h2 : (M.mergeSort fun x y => decide (x ≤ y)).Nodup := (List.mergeSort_perm M _).nodup_iff.2 hn
  exact (h1.and h2).imp fun ⟨a, b⟩ => by simp at a; omega

/-- A list of names of which each can be made, that has what is known and what is made of its own, is all that can be made. -/
theorem least_list {L : List Tm} {known : List Int} {dh kem : Bool} {C : Int → Bool} {M : List Int} (hC : Least L known dh kem C) (h0 : ∀ a, a ∈ known → a ∈ M) (h1 : Le (has M) C) (h2 : StepC L dh kem (has M) (has M)) (n : Int) : has M n = C n := by
  rw [Bool.eq_iff_iff]
  refine ⟨h1 n, hC.2 (has M) ⟨?_, fun a ha => has_iff.2 (h0 a ha), h2⟩ n⟩
  cases hz : has M 0
  · rfl
  · have := h1 0 hz
    rw [hC.1.zero] at this; cases this
end Go.Proofs.Ytlnpfeecaiecaaa

namespace Go.Proofs.Ytlnpfeecaiecaaa
open Go.RowKit
set_option linter.unusedVariables false
set_option linter.unusedSimpArgs false
set_option maxRecDepth 20000

/-- A row of integers, wherever it lies. -/
def IntsAt (w : World) (a : Option Addr) (cap : Nat) (ks : List Int) : Prop :=
  ks.length ≤ cap ∧ cap ≤ maxLen ∧ ∃ b off, ∀ k, k < ks.length → a = some ⟨b, off, none⟩ ∧ w.cell? ⟨b, off + k, none⟩ = some (.int .i64 (ks.getD k 0))
theorem IntsAt.below {w w' : World} {a : Option Addr} {cap : Nat} {ks : List Int} (h : IntsAt w a cap ks) (hb : Below w.heap.size w w') : IntsAt w' a cap ks := by
  obtain ⟨h1, h2, b, off, h3⟩ := h
  refine ⟨h1, h2, b, off, fun k hk => ⟨(h3 k hk).1, ?_⟩⟩
  have hc := (h3 k hk).2
  rw [hb.cell (block_lt_of_cell hc)]
  exact hc
theorem IntsAt.none (w : World) : IntsAt w none 0 [] := ⟨Nat.le_refl _, Nat.zero_le _, 0, 0, fun k hk => absurd hk (Nat.not_lt_zero _)⟩
theorem IntsAt.len {w : World} {a : Option Addr} {cap : Nat} {ks : List Int} (h : IntsAt w a cap ks) : ks.length ≤ 9223372036854775807 := by
  have h1 := h.1
  have h2 := h.2.1
  unfold maxLen at h2
  omega
/-- A row of the call's own. -/
theorem IntsAt.own {w : World} {base : Nat} {v : Value} {ks : List Int} (h : w.ownsRow base 3 1 v ks.length (intsR ks)) : ∃ a cap, v = .slice a ks.length cap ∧ IntsAt w a cap ks := by
  have h' := h
  rcases h.2 with ⟨hv, hn⟩ | ⟨g, cap, cur, hv, hg, hh, h1, h2, h3, h4⟩
  · have e : ks = [] := List.eq_nil_of_length_eq_zero hn
    subst e
    exact ⟨Option.none, 0, hv, IntsAt.none w⟩
  · refine ⟨_, cap, hv, h1, h2, g, 0, fun k hk => ⟨rfl, ?_⟩⟩
    have := h'.cells (g := g) (by rw [hv]; rfl) k (.int .i64 (ks.getD k 0)) (by simp [intsR, List.getD, hk])
    rw [addr_add] at this
    rw [Nat.zero_add]
    exact this
theorem getD_mem {ks : List Int} {k : Nat} (h : k < ks.length) : ks.getD k 0 ∈ ks := by simp [List.getD, h]
theorem mem_getD {ks : List Int} {x : Int} (h : x ∈ ks) : ∃ k, k < ks.length ∧ ks.getD k 0 = x := by
  obtain ⟨k, hk, e⟩ := List.getElem_of_mem h
  exact ⟨k, hk, by simp [List.getD, hk, e]⟩
theorem take_getD {ks : List Int} {k : Nat} (h : k < ks.length) : ks.take (k + 1) = ks.take k ++ [ks.getD k 0] := by
  rw [List.take_add_one]
  simp [List.getD, h]
theorem has_take {ks : List Int} {k : Nat} (h : k < ks.length) (x : Int) : has (ks.take (k + 1)) x = (has (ks.take k) x || decide (x = ks.getD k 0)) := by rw [take_getD h, has_snoc]
theorem has_nil (x : Int) : has [] x = false := by simp [has]
end Go.Proofs.Ytlnpfeecaiecaaa
