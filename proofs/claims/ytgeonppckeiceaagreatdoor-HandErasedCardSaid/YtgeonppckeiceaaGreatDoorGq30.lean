/- What one can make of terms that one knows, as a least set of names: what makes what at once, that sets grow, and when a list of names is that set. Rows of integers that are read: in memory that came in, or that the call owns. -/
/- The law's Same of both stores: one, where both have the same terms. -/
/- The document's helpers: whether a name is on a list, and whether a term of some kind and parts can be made. The document's helpers: whether a name is what a term of a list is taken apart to, and whether a term is made at once of those of a list. -/
/- The document's helper: whether a term is made at once of those of a list. -/
/- Rows of integers that a call owns, and the steps of the document's list of what can be made. The way of the program to what can be made: which names wait for which, that a look at a term finds what is made of it, and that no more is made at the end. -/
import Derived.Test.YtgeonppckeiceaaGreatDoorGq06
import Derived.Test.YtgeonppckeiceaaGreatDoorGq08
import Derived.WalkKit
import Derived.Test.YtgeonppckeiceaaGreatDoorGq03
import Derived.BigRegion
import Derived.Deep.RegionHeld3
namespace Go.Proofs.YtgeonppckeiceaaGreatDoor
open Go.RowKit
set_option linter.unusedVariables false
set_option linter.unusedSimpArgs false
set_option maxRecDepth 20000
def has (M : List Int) (n : Int) : Bool := decide (n ∈ M)
theorem has_iff {M : List Int} {n : Int} : has M n = true ↔ n ∈ M := by simp [has]
theorem has_not {M : List Int} {n : Int} : has M n = false ↔ n ∉ M := by simp [has]
theorem has_snoc (M : List Int) (a n : Int) : has (M ++ [a]) n = (has M n || decide (n = a)) := by simp [has, Bool.decide_or]
def hasT (L : List Tm) (C : Int → Bool) (t : Tm) : Bool := C (nameOf L t)
def ruleB (L : List Tm) (C : Int → Bool) (dh kem : Bool) (t : Tm) : Bool :=
 if t.K = 1 then true
 else if t.K = 3 ∨ t.K = 5 ∨ t.K = 9 then C t.A
 else if t.K = 8 ∨ t.K = 11 then C t.A && C t.B
 else if t.K = 10 then C t.A && C t.B && C t.C
 else if t.K = 4 then (C t.A && (C t.B || hasT L C (pubT t.B))) || (C t.B && hasT L C (pubT t.A)) || (dh && hasT L C (pubT t.A) && hasT L C (pubT t.B))
 else if t.K = 6 then C t.B && (C t.A || hasT L C (kpubT t.A))
 else if t.K = 7 then (C t.B && (C t.A || hasT L C (kpubT t.A))) || (hasT L C (boxT t.A t.B) && (C t.A || kem))
 else false
def openB (C : Int → Bool) (t : Tm) (n : Int) : Bool := (decide (t.K = 11) && (t.A == n || t.B == n)) || (decide (t.K = 10) && t.C == n && C t.A)
def Le (C D : Int → Bool) : Prop := ∀ n, C n = true → D n = true
theorem Le.refl (C : Int → Bool) : Le C C := fun _ h => h
theorem hasT_mono {L : List Tm} {C D : Int → Bool} (h : Le C D) {t : Tm} (k : hasT L C t = true) : hasT L D t = true := h _ k
theorem ruleB_mono {L : List Tm} {C D : Int → Bool} (h : Le C D) {dh kem dh' kem' : Bool} (h1 : dh = true → dh' = true) (h2 : kem = true → kem' = true) {t : Tm} (k : ruleB L C dh kem t = true) : ruleB L D dh' kem' t = true := by
 have hA := h t.A
 have hB := h t.B
 have hC := h t.C
 have p1 := hasT_mono (L := L) h (t := pubT t.A)
 have p2 := hasT_mono (L := L) h (t := pubT t.B)
 have p3 := hasT_mono (L := L) h (t := kpubT t.A)
 have p4 := hasT_mono (L := L) h (t := boxT t.A t.B)
 unfold ruleB at k ⊢
 split
 ·rfl
 ·rename_i n1
  rw [if_neg n1] at k
  split
  ·rename_i y2
   rw [if_pos y2] at k
   exact hA k
  ·rename_i n2
   rw [if_neg n2] at k
   split
   ·rename_i y2
    rw [if_pos y2] at k
    simp only [Bool.and_eq_true] at k ⊢
    exact ⟨hA k.1, hB k.2⟩
   ·rename_i n3
    rw [if_neg n3] at k
    split
    ·rename_i y2
     rw [if_pos y2] at k
     simp only [Bool.and_eq_true] at k ⊢
     exact ⟨⟨hA k.1.1, hB k.1.2⟩, hC k.2⟩
    ·rename_i n4
     rw [if_neg n4] at k
     split
     ·rename_i y2
      rw [if_pos y2] at k
      simp only [Bool.and_eq_true, Bool.or_eq_true] at k ⊢
      rcases k with (⟨k1, k2 | k2⟩ | ⟨k1, k2⟩) | ⟨⟨k1, k2⟩, k3⟩
      ·exact .inl (.inl ⟨hA k1, .inl (hB k2)⟩)
      ·exact .inl (.inl ⟨hA k1, .inr (p2 k2)⟩)
      ·exact .inl (.inr ⟨hB k1, p1 k2⟩)
      ·exact .inr ⟨⟨h1 k1, p1 k2⟩, p2 k3⟩
     ·rename_i n5
      rw [if_neg n5] at k
      split
      ·rename_i y2
       rw [if_pos y2] at k
       simp only [Bool.and_eq_true, Bool.or_eq_true] at k ⊢
       exact ⟨hB k.1, k.2.elim (fun q => .inl (hA q)) (fun q => .inr (p3 q))⟩
      ·rename_i n6
       rw [if_neg n6] at k
       split
       ·rename_i y2
        rw [if_pos y2] at k
        simp only [Bool.and_eq_true, Bool.or_eq_true] at k ⊢
        rcases k with ⟨k1, k2⟩ | ⟨k1, k2⟩
        ·exact .inl ⟨hB k1, k2.elim (fun q => .inl (hA q)) (fun q => .inr (p3 q))⟩
        ·exact .inr ⟨p4 k1, k2.elim (fun q => .inl (hA q)) (fun q => .inr (h2 q))⟩
       ·rename_i n7
        rw [if_neg n7] at k
        exact k
theorem openB_mono {C D : Int → Bool} (h : Le C D) {t : Tm} {n : Int} (k : openB C t n = true) : openB D t n = true := by
 unfold openB at k ⊢
 simp only [Bool.and_eq_true, Bool.or_eq_true, decide_eq_true_eq] at k ⊢
 rcases k with k | ⟨⟨k1, k2⟩, k3⟩
 ·exact .inl k
 ·exact .inr ⟨⟨k1, k2⟩, h _ k3⟩
def tm (L : List Tm) (n : Int) : Tm := L.getD (n - 1).toNat zeroT
def InL (L : List Tm) (n : Int) : Prop := 1 ≤ n ∧ n ≤ (L.length : Int)
instance (L : List Tm) (n : Int) : Decidable (InL L n) := by unfold InL; infer_instance
theorem getT_tm {L : List Tm} {n : Int} (h : InL L n) : getT L n = (tm L n, true) := by unfold getT tm; rw [if_pos (show 1 ≤ n ∧ n ≤ (L.length : Int) from h)]
theorem tm_nat (L : List Tm) (k : Nat) : tm L ((k : Int) + 1) = L.getD k zeroT := by unfold tm; congr 1; omega
def Done (L : List Tm) (dh kem : Bool) (C D : Int → Bool) (n : Int) : Prop := (ruleB L C dh kem (tm L n) = true → D n = true) ∧ (C n = true → ∀ m, openB C (tm L n) m = true → D m = true)
def KStepC (L : List Tm) (dh kem : Bool) (C D : Int → Bool) : Prop := ∀ n, InL L n → Done L dh kem C D n
theorem Done.up {L : List Tm} {dh kem : Bool} {C D E : Int → Bool} {n : Int} (h : Done L dh kem C D n) (k : Le D E) : Done L dh kem C E n := ⟨fun q => k _ (h.1 q), fun q m r => k _ (h.2 q m r)⟩
theorem Done.down {L : List Tm} {dh kem : Bool} {B C D : Int → Bool} {n : Int} (h : Done L dh kem C D n) (k : Le B C) : Done L dh kem B D n :=
 ⟨fun q => h.1 (ruleB_mono k id id q), fun q m r => h.2 (k _ q) m (openB_mono k r)⟩
structure Keeps (L : List Tm) (known : List Int) (dh kem : Bool) (C : Int → Bool) : Prop where
 zero : C 0 = false
 known : ∀ a, a ∈ known → C a = true
 step : KStepC L dh kem C C
def Least (L : List Tm) (known : List Int) (dh kem : Bool) (C : Int → Bool) : Prop := Keeps L known dh kem C ∧ ∀ D, Keeps L known dh kem D → Le C D
theorem Least.one {L : List Tm} {known : List Int} {dh kem : Bool} {C D : Int → Bool} (h : Least L known dh kem C) (k : Least L known dh kem D) (n : Int) : C n = D n := by
 rw [Bool.eq_iff_iff]
 exact ⟨h.2 D k.1 n, k.2 C h.1 n⟩
def allB (L : List Tm) (n : Int) : Bool := decide (InL L n)
theorem part_name {L : List Tm} (hf : Fit L) {n : Int} (hn : InL L n) (j : Nat) (hj : j < many (tm L n).K) : InL L (prt (tm L n).A (tm L n).B (tm L n).C j) := by
 have h := part_in hf (getT_tm hn) j hj
 have := hn.2
 exact ⟨h.1, by omega⟩
theorem many11 {t : Tm} (h : t.K = 11) : many t.K = 2 := by rw [h]; rfl
theorem many10 {t : Tm} (h : t.K = 10) : many t.K = 3 := by rw [h]; rfl
theorem open_in {L : List Tm} (hf : Fit L) {C : Int → Bool} {n m : Int} (hn : InL L n) (h : openB C (tm L n) m = true) : InL L m := by
 unfold openB at h
 simp only [Bool.and_eq_true, Bool.or_eq_true, decide_eq_true_eq, beq_iff_eq] at h
 rcases h with ⟨h1, h2 | h2⟩ | ⟨⟨h1, h2⟩, h3⟩
 ·rw [← h2]; exact part_name hf hn 0 (by rw [many11 h1]; omega)
 ·rw [← h2]; exact part_name hf hn 1 (by rw [many11 h1]; omega)
 ·rw [← h2]; exact part_name hf hn 2 (by rw [many10 h1]; omega)
theorem allB_iff {L : List Tm} {n : Int} : allB L n = true ↔ InL L n := by simp [allB]
theorem allB_holds {L : List Tm} (hf : Fit L) {known : List Int} (hk : ∀ a, a ∈ known → InL L a) (dh kem : Bool) : Keeps L known dh kem (allB L) :=
 ⟨by simp [allB, InL], fun a ha => allB_iff.2 (hk a ha), fun n hn => ⟨fun _ => allB_iff.2 hn, fun _ m hm => allB_iff.2 (open_in hf hn hm)⟩⟩
theorem least_is {L : List Tm} (hf : Fit L) {known : List Int} (hk : ∀ a, a ∈ known → InL L a) (dh kem : Bool) : ∃ C, Least L known dh kem C := by
 classical
 have low : ∀ D, Keeps L known dh kem D → Le (fun n => decide (∀ E, Keeps L known dh kem E → E n = true)) D := fun D hD n hn => (of_decide_eq_true hn) D hD
 refine ⟨fun n => decide (∀ E, Keeps L known dh kem E → E n = true), ⟨?_, ?_, ?_⟩, low⟩
 ·rw [decide_eq_false_iff_not]
  intro h
  have := h _ (allB_holds hf hk dh kem)
  simp [allB, InL] at this
 ·intro a ha
  exact decide_eq_true fun E hE => hE.known a ha
 ·intro n hn
  refine ⟨fun q => decide_eq_true fun E hE => (hE.step n hn).1 (ruleB_mono (low E hE) id id q), fun q m r => decide_eq_true fun E hE => (hE.step n hn).2 (low E hE n q) m (openB_mono (low E hE) r)⟩
def upto (n : Nat) : List Int := (List.range n).map fun i : Nat => (i : Int) + 1
def namesIn (L : List Tm) (C : Int → Bool) : List Int := (upto L.length).filter C
theorem mem_upto {n : Nat} {a : Int} : a ∈ upto n ↔ 1 ≤ a ∧ a ≤ (n : Int) := by
 simp only [upto, List.mem_map, List.mem_range]
 constructor
 ·rintro ⟨i, hi, rfl⟩; omega
 ·rintro ⟨h1, h2⟩; exact ⟨(a - 1).toNat, by omega, by omega⟩
theorem mem_namesIn {L : List Tm} {C : Int → Bool} {a : Int} : a ∈ namesIn L C ↔ InL L a ∧ C a = true := by simp [namesIn, mem_upto, InL]
theorem upto_rises (n : Nat) : (upto n).Pairwise (· < ·) := by
 unfold upto
 rw [List.pairwise_map]
 exact List.pairwise_lt_range.imp fun h => by omega
theorem namesIn_rises (L : List Tm) (C : Int → Bool) : (namesIn L C).Pairwise (· < ·) := (upto_rises L.length).filter C
theorem namesIn_len (L : List Tm) (C : Int → Bool) : (namesIn L C).length ≤ L.length := by
 have := List.length_filter_le C (upto L.length)
 simpa [namesIn, upto] using this
theorem rises_eq : ∀ {l m : List Int}, l.Pairwise (· < ·) → m.Pairwise (· < ·) → (∀ a, a ∈ l ↔ a ∈ m) → l = m
 | [], [], _, _, _ => rfl
 | [], b :: m, _, _, h => by have := (h b).2 (by simp); simp at this
 | a :: l, [], _, _, h => by have := (h a).1 (by simp); simp at this
 | a :: l, b :: m, h1, h2, h => by
  have a1 : ∀ x, x ∈ l → a < x := fun x hx => List.rel_of_pairwise_cons h1 hx
  have b1 : ∀ x, x ∈ m → b < x := fun x hx => List.rel_of_pairwise_cons h2 hx
  have e : a = b := by
   have p1 := (h a).1 (by simp)
   have p2 := (h b).2 (by simp)
   rcases List.mem_cons.1 p1 with q | q
   ·exact q
   ·rcases List.mem_cons.1 p2 with r | r
    ·exact r.symm
    ·have := a1 b r; have := b1 a q; omega
  subst e
  congr 1
  refine rises_eq (List.Pairwise.of_cons h1) (List.Pairwise.of_cons h2) fun x => ?_
  constructor
  ·intro hx
   rcases List.mem_cons.1 ((h x).1 (List.mem_cons_of_mem _ hx)) with q | q
   ·have := a1 x hx; omega
   ·exact q
  ·intro hx
   rcases List.mem_cons.1 ((h x).2 (List.mem_cons_of_mem _ hx)) with q | q
   ·have := b1 x hx; omega
   ·exact q
theorem sorted_names {L : List Tm} {C : Int → Bool} {M : List Int} (hn : M.Nodup) (hm : ∀ a, a ∈ M ↔ InL L a ∧ C a = true) : (M.mergeSort fun x y => decide (x ≤ y)) = namesIn L C := by
 refine rises_eq ?_ (namesIn_rises L C) fun a => by rw [List.mem_mergeSort, hm, mem_namesIn]
 have h1 : (M.mergeSort fun x y => decide (x ≤ y)).Pairwise (fun x y => decide (x ≤ y) = true) := List.pairwise_mergeSort (fun a b c h k => by simp at h k ⊢; omega) (fun a b => by simp; omega) M
 have h2 : (M.mergeSort fun x y => decide (x ≤ y)).Nodup := (List.mergeSort_perm M _).nodup_iff.2 hn
 exact (h1.and h2).imp fun ⟨a, b⟩ => by simp at a; omega
theorem least_list {L : List Tm} {known : List Int} {dh kem : Bool} {C : Int → Bool} {M : List Int} (hC : Least L known dh kem C) (h0 : ∀ a, a ∈ known → a ∈ M) (h1 : Le (has M) C) (h2 : KStepC L dh kem (has M) (has M)) (n : Int) : has M n = C n := by
 rw [Bool.eq_iff_iff]
 refine ⟨h1 n, hC.2 (has M) ⟨?_, fun a ha => has_iff.2 (h0 a ha), h2⟩ n⟩
 cases hz : has M 0
 ·rfl
 ·have := h1 0 hz
  rw [hC.1.zero] at this; cases this
end Go.Proofs.YtgeonppckeiceaaGreatDoor
namespace Go.Proofs.YtgeonppckeiceaaGreatDoor
open Go.RowKit
set_option linter.unusedVariables false
set_option linter.unusedSimpArgs false
set_option maxRecDepth 20000
def IntsAt (w : World) (a : Option Addr) (cap : Nat) (ks : List Int) : Prop :=
 ks.length ≤ cap ∧ cap ≤ maxLen ∧ ∃ b off, ∀ k, k < ks.length → a = some ⟨b, off, none⟩ ∧ w.cell? ⟨b, off + k, none⟩ = some (.int .i64 (ks.getD k 0))
theorem IntsAt.below {w w' : World} {a : Option Addr} {cap : Nat} {ks : List Int} (h : IntsAt w a cap ks) (hb : Below w.heap.size w w') : IntsAt w' a cap ks := by
 obtain ⟨h1, h2, b, off, h3⟩ := h
 refine ⟨h1, h2, b, off, fun k hk => ⟨(h3 k hk).1, ?_⟩⟩
 have hc := (h3 k hk).2
 rw [hb.cell (block_lt_of_cell hc)]
 exact hc
theorem IntsAt.none (w : World) : IntsAt w none 0 [] := ⟨Nat.le_refl _, Nat.zero_le _, 0, 0, fun k hk => absurd hk (Nat.not_lt_zero _)⟩
theorem IntsAt.len {w : World} {a : Option Addr} {cap : Nat} {ks : List Int} (h : IntsAt w a cap ks) : ks.length ≤ 9223372036854775807 := by
 have h1 := h.1
 have h2 := h.2.1
 unfold maxLen at h2
 omega
theorem IntsAt.own {w : World} {base : Nat} {v : Value} {ks : List Int} (h : w.ownsRow base 3 1 v ks.length (intsR ks)) : ∃ a cap, v = .slice a ks.length cap ∧ IntsAt w a cap ks := by
 have h' := h
 rcases h.2 with ⟨hv, hn⟩ | ⟨g, cap, cur, hv, hg, hh, h1, h2, h3, h4⟩
 ·have e : ks = [] := List.eq_nil_of_length_eq_zero hn
  subst e
  exact ⟨Option.none, 0, hv, IntsAt.none w⟩
 ·refine ⟨_, cap, hv, h1, h2, g, 0, fun k hk => ⟨rfl, ?_⟩⟩
  have := h'.cells (g := g) (by rw [hv]; rfl) k (.int .i64 (ks.getD k 0)) (by simp [intsR, List.getD, hk])
  rw [addr_add] at this
  rw [Nat.zero_add]
  exact this
theorem getD_mem {ks : List Int} {k : Nat} (h : k < ks.length) : ks.getD k 0 ∈ ks := by simp [List.getD, h]
theorem take_getD {ks : List Int} {k : Nat} (h : k < ks.length) : ks.take (k + 1) = ks.take k ++ [ks.getD k 0] := by
 rw [List.take_add_one]
 simp [List.getD, h]
theorem has_take {ks : List Int} {k : Nat} (h : k < ks.length) (x : Int) : has (ks.take (k + 1)) x = (has (ks.take k) x || decide (x = ks.getD k 0)) := by rw [take_getD h, has_snoc]
theorem has_nil (x : Int) : has [] x = false := by simp [has]
theorem wrap_small (n : Int) (h1 : 0 ≤ n) (h2 : n ≤ 4611686018427387904) : IntKind.i64.wrap n = n := by
 unfold IntKind.wrap
 have e1 : IntKind.i64.bits = 64 := rfl
 have e2 : IntKind.i64.signed = true := rfl
 simp only [e1, e2, Bool.true_and]
 have : n % 2 ^ 64 = n := by omega
 rw [this, if_neg]
 simp
 omega
end Go.Proofs.YtgeonppckeiceaaGreatDoor
namespace Go.Proofs.YtgeonppckeiceaaGreatDoor
open Go.RowKit
set_option linter.unusedVariables false
set_option linter.unusedSimpArgs false
set_option maxRecDepth 20000
def apartB (L : List Tm) (ks : List Int) (n : Int) : Bool := ks.any fun x => openB (has ks) (tm L x) n
def Uniq (L : List Tm) : Prop := ∀ k, k < L.length → nameOf L (L.getD k zeroT) = (k : Int) + 1
theorem bare_tm {L : List Tm} (hS : Sound L) {n : Int} (hn : InL L n) : 1 ≤ (tm L n).K ∧ (tm L n).K ≤ 11 ∧ ((tm L n).K ≠ 1 → (tm L n).S = ⟨#[]⟩) ∧ ((tm L n).K ≠ 2 → (tm L n).K ≠ 9 → (tm L n).K ≠ 10 → (tm L n).N = 0) ∧ (∀ j, j < 3 → many (tm L n).K ≤ j → prt (tm L n).A (tm L n).B (tm L n).C j = 0) ∧ ∀ j, j < many (tm L n).K → InL L (prt (tm L n).A (tm L n).B (tm L n).C j) := by
 have h := hS (n - 1).toNat (by have := hn.1; have := hn.2; omega)
 rw [may_iff] at h
 obtain ⟨h1, h2, h3, h4, h5, h6, h7⟩ := h
 refine ⟨h1, h2, fun k => (empty_iff _).1 (h3 k), h4, fun j hj hm => ?_, fun j hm => ?_⟩
 ·have := h6 j hj
  unfold BadP at this
  unfold Go.Proofs.YtgeonppckeiceaaGreatDoor.tm at hm ⊢
  omega
 ·have hj : j < 3 := Nat.lt_of_lt_of_le hm (many_le _)
  have := h6 j hj
  unfold BadP at this
  unfold Go.Proofs.YtgeonppckeiceaaGreatDoor.tm at hm ⊢
  unfold InL
  omega
end Go.Proofs.YtgeonppckeiceaaGreatDoor
namespace Go.Proofs.YtgeonppckeiceaaGreatDoor
open Go.RowKit
set_option linter.unusedVariables false
set_option linter.unusedSimpArgs false
set_option maxRecDepth 20000
def OwnI (base : Nat) (v : Value) (M : List Int) (w : World) : Prop := w.ownsRow base 3 1 v M.length (intsR M)
section
variable {base : Nat} {v : Value} {M : List Int} {w w' : World}
theorem OwnI.nil (base : Nat) (w : World) : OwnI base (.slice none 0 0) [] w := World.ownsRow_nil _ _ _ _
theorem OwnI.chg {S : Nat → Prop} (h : OwnI base v M w) (hc : Chg S w w') (hn : ∀ k, v.ownBlock = some k → ¬ S k) : OwnI base v M w' := hc.row h hn
theorem OwnI.below (h : OwnI base v M w) (hb : Below w.heap.size w w') : OwnI base v M w' := (Chg.of_below (S := fun _ => False) hb).row h (fun _ _ q => q)
theorem OwnI.at (h : OwnI base v M w) : ∃ a cap, v = .slice a M.length cap ∧ IntsAt w a cap M := IntsAt.own h
theorem OwnI.app {x : Int} {g cap : Nat} (hown : w'.ownsRow base 3 1 (.slice (some ⟨g, 0, none⟩) (M.length + 1) cap) (M.length + 1) (intsR M ++ [.int .i64 x])) : OwnI base (.slice (some ⟨g, 0, none⟩) (M.length + 1) cap) (M ++ [x]) w' := by
 unfold OwnI
 rw [show (M ++ [x]).length = M.length + 1 by simp, show intsR (M ++ [x]) = intsR M ++ [.int .i64 x] by simp [intsR]]
 exact hown
theorem OwnI.grown {o : Obj} (h : OwnI base v M w) (hg : (w.alloc o).grownBy w' v.ownBlock) : Chg (fun k => some k = v.ownBlock) w w' := (Chg.alloc w o _).trans (Chg.grown hg)
theorem OwnI.grownB {o : Obj} (h : OwnI base v M w) (hbl : base ≤ w.heap.size) (hg : (w.alloc o).grownBy w' v.ownBlock) : Below base w w' := (h.grown hg).below (fun k hk => (h.lt k hk.symm).1) hbl
theorem OwnI.nat (h : OwnI base v M w) {i : Nat} (hi : i < M.length) : ∃ a cap, v = .slice (some ⟨a, 0, none⟩) M.length cap ∧ w.cell? ⟨a, i, none⟩ = some (.int .i64 (M.getD i 0)) ∧ base ≤ a := by
 obtain ⟨a, cap, rfl, hb, hl⟩ := World.ownsRow.form h (by omega)
 refine ⟨a, cap, rfl, ?_, hb⟩
 have := World.ownsRow.cells h (g := a) rfl i (.int .i64 (M.getD i 0)) (by simp [intsR, List.getD, hi])
 have e : (⟨a, 0, none⟩ : Addr).add i = ⟨a, i, none⟩ := by unfold Addr.add; split <;> simp_all
 rwa [e] at this
end
theorem nodup_le {L : List Tm} {M : List Int} (h : M.Nodup) (hi : ∀ x, x ∈ M → InL L x) : M.length ≤ L.length := by
 have e := sorted_names (L := L) (C := has M) h (fun a => ⟨fun q => ⟨hi a q, has_iff.2 q⟩, fun q => has_iff.1 q.2⟩)
 have := namesIn_len L (has M)
 rw [← e, List.length_mergeSort] at this
 exact this
theorem nodup_snoc {M : List Int} {x : Int} (h : M.Nodup) (hx : has M x = false) : (M ++ [x]).Nodup := by
 rw [List.nodup_append]
 refine ⟨h, by simp, fun a ha b hb e => ?_⟩
 rw [List.mem_singleton] at hb
 subst hb; subst e
 exact (has_not.1 hx) ha
def Firsts (L : List Tm) (ks : List Int) (k : Nat) (M : List Int) : Prop := M.Nodup ∧ (∀ x, x ∈ M ↔ x ∈ ks.take k) ∧ ∀ x, x ∈ ks.take k → InL L x
theorem Firsts.add {L : List Tm} {ks M : List Int} {k : Nat} (h : Firsts L ks k M) (hk : k < ks.length) (hi : InL L (ks.getD k 0)) (hx : has M (ks.getD k 0) = false) : Firsts L ks (k + 1) (M ++ [ks.getD k 0]) := by
 refine ⟨nodup_snoc h.1 hx, fun x => ?_, fun x => ?_⟩
 ·rw [take_getD hk]; simp only [List.mem_append, h.2.1 x]
 ·rw [take_getD hk]; simp only [List.mem_append, List.mem_singleton]
  rintro (q | q)
  ·exact h.2.2 x q
  ·rw [q]; exact hi
def Still (L : List Tm) (dh kem : Bool) (M : List Int) (k : Nat) : Prop := ∀ n : Int, 1 ≤ n → n ≤ (k : Int) → has M n = true ∨ (ruleB L (has M) dh kem (tm L n) = false ∧ apartB L M n = false)
theorem Still.zero (L : List Tm) (dh kem : Bool) (M : List Int) : Still L dh kem M 0 := fun n h1 h2 => by omega
theorem Still.next {L : List Tm} {dh kem : Bool} {M : List Int} {k : Nat} (h : Still L dh kem M k) (hn : has M ((k : Int) + 1) = true ∨ (ruleB L (has M) dh kem (tm L ((k : Int) + 1)) = false ∧ apartB L M ((k : Int) + 1) = false)) : Still L dh kem M (k + 1) := fun n h1 h2 => by
 rcases (by omega : n ≤ (k : Int) ∨ n = (k : Int) + 1) with q | q
 ·exact h n h1 q
 ·rw [q]; exact hn
end Go.Proofs.YtgeonppckeiceaaGreatDoor
namespace Go.Proofs.YtgeonppckeiceaaGreatDoor
open Go.RowKit
set_option linter.unusedVariables false
set_option linter.unusedSimpArgs false
set_option maxRecDepth 20000
def addM (M : List Int) (x : Int) : List Int := if has M x = true then M else M ++ [x]
def addAll (M ks : List Int) : List Int := ks.foldl addM M
theorem addM_pre (M : List Int) (x : Int) : M <+: addM M x := by
 unfold addM
 split
 ·exact List.prefix_refl _
 ·exact List.prefix_append _ _
theorem addAll_pre : ∀ (ks M : List Int), M <+: addAll M ks
 | [], M => List.prefix_refl _
 | x :: ks, M => (addM_pre M x).trans (addAll_pre ks (addM M x))
theorem has_addM (M : List Int) (x y : Int) : has (addM M x) y = (has M y || decide (y = x)) := by
 unfold addM
 split
 ·rename_i h
  by_cases e : y = x
  ·rw [e, h]; simp
  ·simp [e]
 ·exact has_snoc M x y
theorem has_addAll : ∀ (ks M : List Int) (y : Int), has (addAll M ks) y = (has M y || has ks y)
 | [], M, y => by rw [has_nil, Bool.or_false]; rfl
 | x :: ks, M, y => by
  show has (addAll (addM M x) ks) y = _
  rw [has_addAll ks, has_addM, Bool.or_assoc]
  congr 1
  simp [has, Bool.decide_or]
theorem addAll_take {M ks : List Int} {k : Nat} (h : k < ks.length) : addAll M (ks.take (k + 1)) = addM (addAll M (ks.take k)) (ks.getD k 0) := by
 rw [take_getD h]; simp [addAll, List.foldl_append]
theorem pre_le {M M' : List Int} (h : M <+: M') : Le (has M) (has M') := fun n q => has_iff.2 (h.subset (has_iff.1 q))
theorem pre_take {M M' : List Int} (h : M <+: M') {i : Nat} (hi : i ≤ M.length) : M'.take i = M.take i := by
 obtain ⟨r, rfl⟩ := h
 exact List.take_append_of_le_length hi
def openL (C : Int → Bool) (t : Tm) : List Int := if t.K = 11 then [t.A, t.B] else if t.K = 10 ∧ C t.A = true then [t.C] else []
theorem openL_iff {C : Int → Bool} {t : Tm} {m : Int} : m ∈ openL C t ↔ openB C t m = true := by
 unfold openL openB
 by_cases h1 : t.K = 11
 ·simp only [if_pos h1, h1]
  simp
  constructor <;> rintro (h | h) <;> simp [h]
 ·by_cases h2 : t.K = 10
  ·have h4 : ¬ ((10 : Int) = 11) := by decide
   by_cases h3 : C t.A = true
   ·simp [h2, h3]
    constructor <;> intro h <;> simp [h]
   ·simp [h2, h3]
  ·simp [h1, h2]
def look1 (L : List Tm) (dh kem : Bool) (M : List Int) (x : Int) : List Int := if ruleB L (has M) dh kem (tm L x) = true then addM M x else M
def lookF (L : List Tm) (dh kem : Bool) (M : List Int) (x : Int) : List Int :=
 if has (look1 L dh kem M x) x = true then addAll (look1 L dh kem M x) (openL (has (look1 L dh kem M x)) (tm L x)) else look1 L dh kem M x
section
variable {L : List Tm} {dh kem : Bool} {M : List Int} {x : Int}
theorem look1_pre : M <+: look1 L dh kem M x := by
 unfold look1; split
 ·exact addM_pre _ _
 ·exact List.prefix_refl _
theorem lookF_pre : M <+: lookF L dh kem M x := by
 unfold lookF; split
 ·exact look1_pre.trans (addAll_pre _ _)
 ·exact look1_pre
theorem openL_in (hf : Fit L) {C : Int → Bool} (hx : InL L x) : ∀ y, y ∈ openL C (tm L x) → InL L y := fun y hy => open_in hf hx (openL_iff.1 hy)
theorem look1_le {C : Int → Bool} (hC : KStepC L dh kem C C) (h : Le (has M) C) (hx : InL L x) : Le (has (look1 L dh kem M x)) C := by
 unfold look1; split
 ·rename_i q
  intro n hn
  rw [has_addM, Bool.or_eq_true, decide_eq_true_eq] at hn
  rcases hn with r | r
  ·exact h n r
  ·rw [r]; exact (hC x hx).1 (ruleB_mono h id id q)
 ·exact h
theorem lookF_le {C : Int → Bool} (hC : KStepC L dh kem C C) (h : Le (has M) C) (hx : InL L x) : Le (has (lookF L dh kem M x)) C := by
 have h1 := look1_le hC h hx
 unfold lookF; split
 ·rename_i q
  intro n hn
  rw [has_addAll, Bool.or_eq_true, has_iff, has_iff, openL_iff] at hn
  rcases hn with r | r
  ·exact h1 n (has_iff.2 r)
  ·exact (hC x hx).2 (h1 x q) n (openB_mono h1 r)
 ·exact h1
theorem lookF_done : Done L dh kem (has M) (has (lookF L dh kem M x)) x := by
 have h1 : Le (has M) (has (look1 L dh kem M x)) := pre_le look1_pre
 have h2 : Le (has (look1 L dh kem M x)) (has (lookF L dh kem M x)) := by
  unfold lookF; split
  ·exact pre_le (addAll_pre _ _)
  ·exact Le.refl _
 refine ⟨fun q => h2 x ?_, fun q m r => ?_⟩
 ·unfold look1; rw [if_pos q, has_addM]; simp
 ·have q1 := h1 x q
  unfold lookF; rw [if_pos q1, has_addAll, Bool.or_eq_true, has_iff (M := openL _ _), openL_iff]
  exact .inr (openB_mono h1 r)
end
def othersT (t : Tm) : List Tm := if t.K = 4 then [pubT t.A, pubT t.B] else if t.K = 6 then [kpubT t.A] else if t.K = 7 then [kpubT t.A, boxT t.A t.B] else []
def partsT (t : Tm) : List Int := [t.A, t.B, t.C].take (many t.K)
def asks (L : List Tm) (n : Int) : List Int := partsT (tm L n) ++ [n] ++ (othersT (tm L n)).map (nameOf L)
theorem rule_local {L : List Tm} {dh kem : Bool} {C D : Int → Bool} {n x : Int} (hx : x ∉ asks L n) (h : ∀ y, y ≠ x → C y = D y) :
  ruleB L C dh kem (tm L n) = ruleB L D dh kem (tm L n) ∧ C n = D n ∧ ∀ m, openB C (tm L n) m = openB D (tm L n) m := by
 have q : ∀ y, y ∈ asks L n → C y = D y := fun y hy => h y (fun e => hx (by rw [← e]; exact hy))
 unfold asks at q
 generalize tm L n = t at q
 have hp : ∀ y, y ∈ partsT t → C y = D y := fun y hy => q y (by simp [hy])
 have ho : ∀ u, u ∈ othersT t → hasT L C u = hasT L D u := fun u hu => q _ (by
  rw [List.mem_append]; exact .inr (List.mem_map_of_mem hu))
 have pA : 1 ≤ many t.K → C t.A = D t.A := fun k => hp _ (by
  unfold partsT
  rcases (by have := many_le t.K; omega : many t.K = 1 ∨ many t.K = 2 ∨ many t.K = 3) with e | e | e <;> rw [e] <;> simp)
 have pB : 2 ≤ many t.K → C t.B = D t.B := fun k => hp _ (by
  unfold partsT
  rcases (by have := many_le t.K; omega : many t.K = 2 ∨ many t.K = 3) with e | e <;> rw [e] <;> simp)
 have pC : 3 ≤ many t.K → C t.C = D t.C := fun k => hp _ (by
  unfold partsT
  rw [show many t.K = 3 by have := many_le t.K; omega]; simp)
 refine ⟨?_, q n (by simp), fun m => ?_⟩
 ·unfold ruleB
  by_cases c1 : t.K = 1
  ·simp [c1]
  by_cases c2 : t.K = 3 ∨ t.K = 5 ∨ t.K = 9
  ·simp only [c1, c2, if_true, if_false]
   exact pA (by rcases c2 with e | e | e <;> rw [e] <;> decide)
  by_cases c3 : t.K = 8 ∨ t.K = 11
  ·simp only [c1, c2, c3, if_true, if_false]
   have e : many t.K = 2 := by rcases c3 with e | e <;> rw [e] <;> rfl
   rw [pA (by omega), pB (by omega)]
  by_cases c4 : t.K = 10
  ·simp only [c1, c2, c3, if_false]
   have e : many t.K = 3 := by rw [c4]; rfl
   rw [if_pos c4, if_pos c4, pA (by omega), pB (by omega), pC (by omega)]
  by_cases c5 : t.K = 4
  ·simp only [c1, c2, c3, c4, if_false]
   have e : many t.K = 2 := by rw [c5]; rfl
   rw [if_pos c5, if_pos c5, pA (by omega), pB (by omega), ho (pubT t.A) (by simp [othersT, c5]), ho (pubT t.B) (by simp [othersT, c5])]
  by_cases c6 : t.K = 6
  ·simp only [c1, c2, c3, c4, c5, if_false]
   have e : many t.K = 2 := by rw [c6]; rfl
   rw [if_pos c6, if_pos c6, pA (by omega), pB (by omega), ho (kpubT t.A) (by simp [othersT, c6])]
  by_cases c7 : t.K = 7
  ·simp only [c1, c2, c3, c4, c5, c6, if_false]
   have e : many t.K = 2 := by rw [c7]; rfl
   rw [if_pos c7, if_pos c7, pA (by omega), pB (by omega), ho (kpubT t.A) (by simp [othersT, c7]), ho (boxT t.A t.B) (by simp [othersT, c7])]
  ·simp only [c1, c2, c3, c4, c5, c6, c7, if_false]
 ·unfold openB
  by_cases c4 : t.K = 10
  ·rw [pA (by rw [c4]; decide)]
  ·simp [c4]
theorem Done.local {L : List Tm} {dh kem : Bool} {C D E : Int → Bool} {n x : Int} (hx : x ∉ asks L n) (h : ∀ y, y ≠ x → C y = D y) (k : Done L dh kem C E n) : Done L dh kem D E n := by
 obtain ⟨h1, h2, h3⟩ := rule_local (dh := dh) (kem := kem) hx h
 exact ⟨fun q => k.1 (by rw [h1]; exact q), fun q m r => k.2 (by rw [h2]; exact q) m (by rw [h3]; exact r)⟩
theorem kturn_step {L : List Tm} {dh kem : Bool} {M M' : List Int} {i : Nat} {H : Nat → List Int} (hH : ∀ n, InL L n → ∀ on, on ∈ asks L n → n ∈ H on.toNat) (hi : i < M.length)
  (hJ : KStepC L dh kem (has (M.take i)) (has M)) (hp : M <+: M') (hall : ∀ n, n ∈ H (M.getD i 0).toNat → Done L dh kem (has (M.take (i + 1))) (has M') n) : KStepC L dh kem (has (M'.take (i + 1))) (has M') := by
 intro n hn
 rw [pre_take hp (by omega)]
 by_cases hx : M.getD i 0 ∈ asks L n
 ·exact hall n (hH n hn _ hx)
 ·refine Done.local hx (C := has (M.take i)) (fun y hy => ?_) ((hJ n hn).up (pre_le hp))
  rw [has_take hi, decide_eq_false hy, Bool.or_false]
theorem look_all {L : List Tm} {dh kem : Bool} {M D : List Int} {x : Int} (hD : Le (has D) (has M)) : Done L dh kem (has D) (has (lookF L dh kem M x)) x := lookF_done.down hD
def asked3 (t : Tm) : Prop := t.K = 3 ∨ t.K = 5 ∨ t.K = 6
instance (t : Tm) : Decidable (asked3 t) := by unfold asked3; infer_instance
def noteOf (L : List Tm) (k : Nat) (t : Tm) : Int := if asked3 t ∧ nameOf L t ≤ (k : Int) then nameOf L t else 0
theorem nameOf_bound (L : List Tm) (t : Tm) : 0 ≤ nameOf L t ∧ nameOf L t ≤ (L.length : Int) := by
 rcases nameOf_cases L t with ⟨h0, _⟩ | ⟨k, hk, h1, h2, _⟩
 ·rw [h0]; omega
 ·rw [h1]; omega
theorem noteOf_zero (L : List Tm) (t : Tm) : noteOf L 0 t = 0 := by
 have := nameOf_bound L t
 unfold noteOf; split <;> omega
theorem noteOf_all (L : List Tm) {t : Tm} (h : asked3 t) : noteOf L L.length t = nameOf L t := by unfold noteOf; rw [if_pos ⟨h, (nameOf_bound L t).2⟩]
theorem noteOf_same {L : List Tm} (hU : Uniq L) {k : Nat} (hk : k < L.length) (h : asked3 (L.getD k zeroT)) : noteOf L (k + 1) (L.getD k zeroT) = (k : Int) + 1 := by
 unfold noteOf; rw [hU k hk, if_pos ⟨h, by omega⟩]
theorem noteOf_other {L : List Tm} (hU : Uniq L) {k : Nat} (hk : k < L.length) {t : Tm} (h : t ≠ L.getD k zeroT ∨ ¬ asked3 t) : noteOf L (k + 1) t = noteOf L k t := by
 unfold noteOf
 rcases h with h | h
 ·have hne : nameOf L t ≠ (k : Int) + 1 := by
   rcases nameOf_cases L t with ⟨h0, _⟩ | ⟨j, hj, h1, h2, _⟩
   ·omega
   ·rw [h1]; intro e; apply h; rw [← h2]; congr 1; omega
  have e : (nameOf L t ≤ ((k + 1 : Nat) : Int)) ↔ (nameOf L t ≤ (k : Int)) := by omega
  simp only [e]
 ·simp [h]
def hangOne (H : Nat → List Int) (n on : Int) : Nat → List Int := fun i => if i = on.toNat then H i ++ [n] else H i
def hangAll (H : Nat → List Int) (n : Int) (ons : List Int) : Nat → List Int := ons.foldl (fun H on => hangOne H n on) H
def hangs (L : List Tm) : Nat → Nat → List Int
 | 0 => fun _ => []
 | k + 1 => hangAll (hangs L k) ((k : Int) + 1) (asks L ((k : Int) + 1))
theorem hangOne_mem {H : Nat → List Int} {n on y : Int} {i : Nat} : y ∈ hangOne H n on i ↔ y ∈ H i ∨ (i = on.toNat ∧ y = n) := by
 unfold hangOne; split
 ·rename_i e; simp [e]
 ·rename_i e; simp [e]
theorem hangAll_mem : ∀ (ons : List Int) {H : Nat → List Int} {n y : Int} {i : Nat}, y ∈ hangAll H n ons i ↔ y ∈ H i ∨ ((∃ on, on ∈ ons ∧ i = on.toNat) ∧ y = n)
 | [], H, n, y, i => by simp [hangAll]
 | on :: ons, H, n, y, i => by
  show y ∈ hangAll (hangOne H n on) n ons i ↔ _
  rw [hangAll_mem ons, hangOne_mem]
  simp only [List.mem_cons, exists_eq_or_imp]
  constructor
  ·rintro ((h | ⟨h, k⟩) | ⟨h, k⟩)
   ·exact .inl h
   ·exact .inr ⟨.inl h, k⟩
   ·exact .inr ⟨.inr h, k⟩
  ·rintro (h | ⟨h | h, k⟩)
   ·exact .inl (.inl h)
   ·exact .inl (.inr ⟨h, k⟩)
   ·exact .inr ⟨h, k⟩
theorem hangOne_len (H : Nat → List Int) (n on : Int) (i : Nat) : (hangOne H n on i).length ≤ (H i).length + 1 := by
 unfold hangOne; split <;> simp
theorem hangAll_len : ∀ (ons : List Int) (H : Nat → List Int) (n : Int) (i : Nat), (hangAll H n ons i).length ≤ (H i).length + ons.length
 | [], H, n, i => by simp [hangAll]
 | on :: ons, H, n, i => by
  show (hangAll (hangOne H n on) n ons i).length ≤ _
  have := hangAll_len ons (hangOne H n on) n i
  have := hangOne_len H n on i
  simp; omega
theorem hangAll_take {H : Nat → List Int} {n : Int} {ons : List Int} {k : Nat} (h : k < ons.length) : hangAll H n (ons.take (k + 1)) = hangOne (hangAll H n (ons.take k)) n (ons.getD k 0) := by
 rw [take_getD h]; simp [hangAll, List.foldl_append]
theorem asks_len (L : List Tm) (n : Int) : (asks L n).length ≤ 6 := by
 have h1 : (partsT (tm L n)).length ≤ 3 := by unfold partsT; rw [List.length_take]; simp; omega
 have h2 : (othersT (tm L n)).length ≤ 2 := by unfold othersT; split; · simp
                                               split; · simp
                                               split <;> simp
 unfold asks; simp; omega
theorem hangs_len (L : List Tm) : ∀ k i, (hangs L k i).length ≤ 6 * k
 | 0, i => by simp [hangs]
 | k + 1, i => by
  have h1 := hangs_len L k i
  have h2 := hangAll_len (asks L ((k : Int) + 1)) (hangs L k) ((k : Int) + 1) i
  have h3 := asks_len L ((k : Int) + 1)
  show (hangAll (hangs L k) ((k : Int) + 1) (asks L ((k : Int) + 1)) i).length ≤ _
  omega
theorem hangs_mem {L : List Tm} : ∀ {k : Nat} {n : Int}, 1 ≤ n → n ≤ (k : Int) → ∀ on, on ∈ asks L n → n ∈ hangs L k on.toNat
 | 0, n, h1, h2, on, _ => by omega
 | k + 1, n, h1, h2, on, ho => by
  show n ∈ hangAll (hangs L k) ((k : Int) + 1) (asks L ((k : Int) + 1)) on.toNat
  rw [hangAll_mem]
  rcases (by omega : n ≤ (k : Int) ∨ n = (k : Int) + 1) with q | q
  ·exact .inl (hangs_mem h1 q on ho)
  ·exact .inr ⟨⟨on, by rw [← q]; exact ho, rfl⟩, q⟩
theorem hangs_in {L : List Tm} : ∀ {k i : Nat} {y : Int}, y ∈ hangs L k i → 1 ≤ y ∧ y ≤ (k : Int)
 | 0, i, y, h => by simp [hangs] at h
 | k + 1, i, y, h => by
  have h' : y ∈ hangAll (hangs L k) ((k : Int) + 1) (asks L ((k : Int) + 1)) i := h
  rw [hangAll_mem] at h'
  rcases h' with q | ⟨_, q⟩
  ·have := hangs_in q; omega
  ·omega
theorem parts_mem {L : List Tm} (hS : Sound L) {n : Int} (hn : InL L n) : ∀ y, y ∈ partsT (tm L n) → InL L y := by
 have h := (bare_tm hS hn).2.2.2.2.2
 have hm := many_le (tm L n).K
 have p0 := fun q => h 0 q
 have p1 := fun q => h 1 q
 have p2 := fun q => h 2 q
 intro y hy
 unfold partsT at hy
 rcases (by omega : many (tm L n).K = 0 ∨ many (tm L n).K = 1 ∨ many (tm L n).K = 2 ∨ many (tm L n).K = 3) with e | e | e | e <;> rw [e] at hy <;> simp at hy
 ·rw [hy]; exact p0 (by omega)
 ·rcases hy with rfl | rfl
  ·exact p0 (by omega)
  ·exact p1 (by omega)
 ·rcases hy with rfl | rfl | rfl
  ·exact p0 (by omega)
  ·exact p1 (by omega)
  ·exact p2 (by omega)
theorem asks_bound {L : List Tm} (hS : Sound L) {n : Int} (hn : InL L n) : ∀ y, y ∈ asks L n → 0 ≤ y ∧ y ≤ (L.length : Int) := by
 intro y hy
 unfold asks at hy
 simp only [List.mem_append, List.mem_singleton, List.mem_map] at hy
 rcases hy with (q | q) | ⟨u, _, rfl⟩
 ·have := parts_mem hS hn y q
  unfold InL at this; omega
 ·rw [q]; unfold InL at hn; omega
 ·exact nameOf_bound L u
end Go.Proofs.YtgeonppckeiceaaGreatDoor
