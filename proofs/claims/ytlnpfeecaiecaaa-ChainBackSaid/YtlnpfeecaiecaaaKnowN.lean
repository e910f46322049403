/- Rows of integers that a call owns, and the steps of the document's list of what can be made. The way of the program to what can be made: which names wait for which, that a look at a term finds what is made of it, and that no more is made at the end. -/
import Derived.Test.YtlnpfeecaiecaaaKnowR3
import Derived.Test.YtlnpfeecaiecaaaBeside
namespace Go.Proofs.Ytlnpfeecaiecaaa
open Go.RowKit
set_option linter.unusedVariables false
set_option linter.unusedSimpArgs false
set_option maxRecDepth 20000

/-- A row of integers that the call owns. -/
def OwnI (base : Nat) (v : Value) (M : List Int) (w : World) : Prop := w.ownsRow base 3 1 v M.length (intsR M)
section
variable {base : Nat} {v : Value} {M : List Int} {w w' : World}
theorem OwnI.nil (base : Nat) (w : World) : OwnI base (.slice none 0 0) [] w := World.ownsRow_nil _ _ _ _
theorem OwnI.new (w : World) (hb : base ≤ w.heap.size) : OwnI base (.slice (some ⟨w.heap.size, 0, none⟩) 0 0) [] (w.alloc (.cells #[] 3)) :=
  World.ownsRow_made w #[] 0 hb (Nat.zero_le _) rfl
theorem OwnI.chg {S : Nat → Prop} (h : OwnI base v M w) (hc : Chg S w w') (hn : ∀ k, v.ownBlock = some k → ¬ S k) : OwnI base v M w' := hc.row h hn
theorem OwnI.below (h : OwnI base v M w) (hb : Below w.heap.size w w') : OwnI base v M w' := (Chg.of_below (S := fun _ => False) hb).row h (fun _ _ q => q)
theorem OwnI.at (h : OwnI base v M w) : ∃ a cap, v = .slice a M.length cap ∧ IntsAt w a cap M := IntsAt.own h
theorem OwnI.app {x : Int} {g cap : Nat} (hown : w'.ownsRow base 3 1 (.slice (some ⟨g, 0, none⟩) (M.length + 1) cap) (M.length + 1) (intsR M ++ [.int .i64 x])) : OwnI base (.slice (some ⟨g, 0, none⟩) (M.length + 1) cap) (M ++ [x]) w' := by
  unfold OwnI
  rw [show (M ++ [x]).length = M.length + 1 by simp, show intsR (M ++ [x]) = intsR M ++ [.int .i64 x] by simp [intsR]]
  exact hown
theorem OwnI.grown {o : Obj} (h : OwnI base v M w) (hg : (w.alloc o).grownBy w' v.ownBlock) : Chg (fun k => some k = v.ownBlock) w w' := (Chg.alloc w o _).trans (Chg.grown hg)
theorem OwnI.grownB {o : Obj} (h : OwnI base v M w) (hbl : base ≤ w.heap.size) (hg : (w.alloc o).grownBy w' v.ownBlock) : Below base w w' := (h.grown hg).below (fun k hk => (h.lt k hk.symm).1) hbl
theorem OwnI.nat (h : OwnI base v M w) {i : Nat} (hi : i < M.length) : ∃ a cap, v = .slice (some ⟨a, 0, none⟩) M.length cap ∧ w.cell? ⟨a, i, none⟩ = some (.int .i64 (M.getD i 0)) ∧ base ≤ a := by
  obtain ⟨a, cap, rfl, hb, hl⟩ := World.ownsRow.form h (by omega)
  refine ⟨a, cap, rfl, ?_, hb⟩
  have := World.ownsRow.cells h (g := a) rfl i (.int .i64 (M.getD i 0)) (by simp [intsR, List.getD, hi])
  have e : (⟨a, 0, none⟩ : Addr).add i = ⟨a, i, none⟩ := by unfold Addr.add; split <;> simp_all
  rwa [e] at this
end

theorem nodup_le {L : List Tm} {M : List Int} (h : M.Nodup) (hi : ∀ x, x ∈ M → InL L x) : M.length ≤ L.length := by
  have e := sorted_names (L := L) (C := has M) h (fun a => ⟨fun q => ⟨hi a q, has_iff.2 q⟩, fun q => has_iff.1 q.2⟩)
  have := namesIn_len L (has M)
  rw [← e, List.length_mergeSort] at this
  exact this
theorem nodup_snoc {M : List Int} {x : Int} (h : M.Nodup) (hx : has M x = false) : (M ++ [x]).Nodup := by
  rw [List.nodup_append]
  refine ⟨h, by simp, fun a ha b hb e => ?_⟩
  rw [List.mem_singleton] at hb
  subst hb; subst e
  exact (has_not.1 hx) ha

/-- The known ones, each once. -/
def Firsts (L : List Tm) (ks : List Int) (k : Nat) (M : List Int) : Prop := M.Nodup ∧ (∀ x, x ∈ M ↔ x ∈ ks.take k) ∧ ∀ x, x ∈ ks.take k → InL L x
theorem Firsts.nil (L : List Tm) (ks : List Int) : Firsts L ks 0 [] := ⟨by simp, by simp, by simp⟩
theorem Firsts.add {L : List Tm} {ks M : List Int} {k : Nat} (h : Firsts L ks k M) (hk : k < ks.length) (hi : InL L (ks.getD k 0)) (hx : has M (ks.getD k 0) = false) : Firsts L ks (k + 1) (M ++ [ks.getD k 0]) := by
  refine ⟨nodup_snoc h.1 hx, fun x => ?_, fun x => ?_⟩
  · rw [take_getD hk]; simp only [List.mem_append, h.2.1 x]
  · rw [take_getD hk]; simp only [List.mem_append, List.mem_singleton]
    rintro (q | q)
    · exact h.2.2 x q
    · rw [q]; exact hi
theorem Firsts.old {L : List Tm} {ks M : List Int} {k : Nat} (h : Firsts L ks k M) (hk : k < ks.length) (hx : has M (ks.getD k 0) = true) : Firsts L ks (k + 1) M := by
  have hm := has_iff.1 hx
  refine ⟨h.1, fun x => ?_, fun x => ?_⟩
  · rw [take_getD hk]; simp only [List.mem_append, List.mem_singleton, ← h.2.1 x]
    exact ⟨.inl, fun q => q.elim id (fun e => by rw [e]; exact hm)⟩
  · rw [take_getD hk]; simp only [List.mem_append, List.mem_singleton]
    rintro (q | q)
    · exact h.2.2 x q
    · rw [q]; exact h.2.2 _ ((h.2.1 _).1 hm)
theorem Firsts.len {L : List Tm} {ks M : List Int} {k : Nat} (h : Firsts L ks k M) : M.length ≤ L.length := nodup_le h.1 fun x hx => h.2.2 x ((h.2.1 x).1 hx)
theorem Firsts.all {L : List Tm} {ks M : List Int} (h : Firsts L ks ks.length M) : (∀ x, x ∈ ks → InL L x) ∧ ∀ x, x ∈ M ↔ x ∈ ks := by
  have h2 := h.2.1
  have h3 := h.2.2
  rw [List.take_length] at h2 h3
  exact ⟨h3, h2⟩

/-- A list on the way to the least set. -/
def Up (L : List Tm) (ks : List Int) (C : Int → Bool) (M : List Int) : Prop := M.Nodup ∧ (∀ x, x ∈ M → InL L x) ∧ (∀ x, x ∈ ks → x ∈ M) ∧ Le (has M) C
theorem Firsts.up {L : List Tm} {ks M : List Int} {dh kem : Bool} {C : Int → Bool} (h : Firsts L ks ks.length M) (hC : Least L ks dh kem C) : Up L ks C M :=
  ⟨h.1, fun x hx => h.all.1 x ((h.all.2 x).1 hx), fun x hx => (h.all.2 x).2 hx, fun x hx => hC.1.known x ((h.all.2 x).1 (has_iff.1 hx))⟩
theorem Up.add {L : List Tm} {ks M : List Int} {dh kem : Bool} {C : Int → Bool} {n : Int} (hf : Fit L) (hC : Least L ks dh kem C) (h : Up L ks C M) (hn : InL L n) (hx : has M n = false) (hr : ruleB L (has M) dh kem (tm L n) = true ∨ apartB L M n = true) : Up L ks C (M ++ [n]) := by
  refine ⟨nodup_snoc h.1 hx, fun x hq => ?_, fun x hq => List.mem_append_left _ (h.2.2.1 x hq), fun x hq => ?_⟩
  · rcases List.mem_append.1 hq with q | q
    · exact h.2.1 x q
    · rw [List.mem_singleton.1 q]; exact hn
  · rw [has_iff, List.mem_append] at hq
    rcases hq with q | q
    · exact h.2.2.2 x (has_iff.2 q)
    · rw [List.mem_singleton.1 q]
      rcases hr with r | r
      · exact (hC.1.step n hn).1 (ruleB_mono h.2.2.2 id id r)
      · obtain ⟨y, hy, ho⟩ := List.any_eq_true.1 r
        exact (hC.1.step y (h.2.1 y hy)).2 (h.2.2.2 y (has_iff.2 hy)) n (openB_mono h.2.2.2 ho)
theorem Up.len {L : List Tm} {ks M : List Int} {C : Int → Bool} (h : Up L ks C M) : M.length ≤ L.length := nodup_le h.1 h.2.1
/-- A round that found nothing, up to a name. -/
def Still (L : List Tm) (dh kem : Bool) (M : List Int) (k : Nat) : Prop := ∀ n : Int, 1 ≤ n → n ≤ (k : Int) → has M n = true ∨ (ruleB L (has M) dh kem (tm L n) = false ∧ apartB L M n = false)
theorem Still.zero (L : List Tm) (dh kem : Bool) (M : List Int) : Still L dh kem M 0 := fun n h1 h2 => by omega
theorem Still.next {L : List Tm} {dh kem : Bool} {M : List Int} {k : Nat} (h : Still L dh kem M k) (hn : has M ((k : Int) + 1) = true ∨ (ruleB L (has M) dh kem (tm L ((k : Int) + 1)) = false ∧ apartB L M ((k : Int) + 1) = false)) : Still L dh kem M (k + 1) := fun n h1 h2 => by
  rcases (by omega : n ≤ (k : Int) ∨ n = (k : Int) + 1) with q | q
  · exact h n h1 q
  · rw [q]; exact hn
theorem Still.step {L : List Tm} {dh kem : Bool} {M : List Int} (hf : Fit L) (h : Still L dh kem M L.length) : StepC L dh kem (has M) (has M) := by
  intro n hn
  refine ⟨fun q => ?_, fun q m ho => ?_⟩
  · rcases h n hn.1 hn.2 with r | ⟨r, _⟩
    · exact r
    · rw [q] at r; cases r
  · have hm := open_in hf hn ho
    rcases h m hm.1 hm.2 with r | ⟨_, r⟩
    · exact r
    · have : apartB L M m = true := List.any_eq_true.2 ⟨n, has_iff.1 q, ho⟩
      rw [this] at r; cases r
theorem Up.is {L : List Tm} {ks M : List Int} {dh kem : Bool} {C : Int → Bool} (hC : Least L ks dh kem C) (h : Up L ks C M) (hs : StepC L dh kem (has M) (has M)) (n : Int) : has M n = C n := least_list hC h.2.2.1 h.2.2.2 hs n
theorem filter_upto {C : Int → Bool} {k : Nat} : (upto (k + 1)).filter C = (upto k).filter C ++ (if C ((k : Int) + 1) = true then [(k : Int) + 1] else []) := by
  rw [upto_succ, List.filter_append]
  congr 1
  cases h : C ((k : Int) + 1) <;> simp [List.filter, h]
theorem filter_upto_len (C : Int → Bool) (k : Nat) : ((upto k).filter C).length ≤ k := by
  have := List.length_filter_le C (upto k)
  simpa [upto] using this
end Go.Proofs.Ytlnpfeecaiecaaa

namespace Go.Proofs.Ytlnpfeecaiecaaa
open Go.RowKit
set_option linter.unusedVariables false
set_option linter.unusedSimpArgs false
set_option maxRecDepth 20000

def addM (M : List Int) (x : Int) : List Int := if has M x = true then M else M ++ [x]
def addAll (M ks : List Int) : List Int := ks.foldl addM M
theorem addM_pre (M : List Int) (x : Int) : M <+: addM M x := by
  unfold addM
  split
  · exact List.prefix_refl _
  · exact List.prefix_append _ _
theorem addAll_pre : ∀ (ks M : List Int), M <+: addAll M ks
  | [], M => List.prefix_refl _
  | x :: ks, M => (addM_pre M x).trans (addAll_pre ks (addM M x))
theorem has_addM (M : List Int) (x y : Int) : has (addM M x) y = (has M y || decide (y = x)) := by
  unfold addM
  split
  · rename_i h
    by_cases e : y = x
    · rw [e, h]; simp
    · simp [e]
  · exact has_snoc M x y
theorem has_addAll : ∀ (ks M : List Int) (y : Int), has (addAll M ks) y = (has M y || has ks y)
  | [], M, y => by rw [has_nil, Bool.or_false]; rfl
  | x :: ks, M, y => by
    show has (addAll (addM M x) ks) y = _
    rw [has_addAll ks, has_addM, Bool.or_assoc]
    congr 1
    simp [has, Bool.decide_or]
theorem addM_nodup {M : List Int} (h : M.Nodup) (x : Int) : (addM M x).Nodup := by
  unfold addM
  split
  · exact h
  · rename_i q
    exact nodup_snoc h (by simpa using q)
theorem addAll_nodup : ∀ (ks : List Int) {M : List Int}, M.Nodup → (addAll M ks).Nodup
  | [], _, h => h
  | x :: ks, _, h => addAll_nodup ks (addM_nodup h x)
theorem mem_addAll {M ks : List Int} {y : Int} : y ∈ addAll M ks ↔ y ∈ M ∨ y ∈ ks := by
  rw [← has_iff, has_addAll, Bool.or_eq_true, has_iff, has_iff]
theorem addAll_take {M ks : List Int} {k : Nat} (h : k < ks.length) : addAll M (ks.take (k + 1)) = addM (addAll M (ks.take k)) (ks.getD k 0) := by
  rw [take_getD h]; simp [addAll, List.foldl_append]
theorem pre_le {M M' : List Int} (h : M <+: M') : Le (has M) (has M') := fun n q => has_iff.2 (h.subset (has_iff.1 q))
theorem take_le (M : List Int) (i : Nat) : Le (has (M.take i)) (has M) := pre_le (List.take_prefix i M)
theorem pre_take {M M' : List Int} (h : M <+: M') {i : Nat} (hi : i ≤ M.length) : M'.take i = M.take i := by
  obtain ⟨r, rfl⟩ := h
  exact List.take_append_of_le_length hi
theorem pre_getD {M M' : List Int} (h : M <+: M') {i : Nat} (hi : i < M.length) : M'.getD i 0 = M.getD i 0 := by
  obtain ⟨r, rfl⟩ := h
  simp [List.getD, List.getElem?_append_left hi]

/-- What is found in a term, as a list. -/
def openL (C : Int → Bool) (t : Tm) : List Int := if t.K = 11 then [t.A, t.B] else if t.K = 10 ∧ C t.A = true then [t.C] else []
theorem openL_iff {C : Int → Bool} {t : Tm} {m : Int} : m ∈ openL C t ↔ openB C t m = true := by
  unfold openL openB
  by_cases h1 : t.K = 11
  · simp only [if_pos h1, h1]
    simp
    constructor <;> rintro (h | h) <;> simp [h]
  · by_cases h2 : t.K = 10
    · have h4 : ¬ ((10 : Int) = 11) := by decide
      by_cases h3 : C t.A = true
      · simp [h2, h3]
        constructor <;> intro h <;> simp [h]
      · simp [h2, h3]
    · simp [h1, h2]
/-- A look at a term. -/
def look1 (L : List Tm) (dh kem : Bool) (M : List Int) (x : Int) : List Int := if ruleB L (has M) dh kem (tm L x) = true then addM M x else M
def lookF (L : List Tm) (dh kem : Bool) (M : List Int) (x : Int) : List Int :=
  if has (look1 L dh kem M x) x = true then addAll (look1 L dh kem M x) (openL (has (look1 L dh kem M x)) (tm L x)) else look1 L dh kem M x
section
variable {L : List Tm} {dh kem : Bool} {M : List Int} {x : Int}
theorem look1_pre : M <+: look1 L dh kem M x := by
  unfold look1; split
  · exact addM_pre _ _
  · exact List.prefix_refl _
theorem lookF_pre : M <+: lookF L dh kem M x := by
  unfold lookF; split
  · exact look1_pre.trans (addAll_pre _ _)
  · exact look1_pre
theorem look1_nodup (h : M.Nodup) : (look1 L dh kem M x).Nodup := by
  unfold look1; split
  · exact addM_nodup h _
  · exact h
theorem lookF_nodup (h : M.Nodup) : (lookF L dh kem M x).Nodup := by
  unfold lookF; split
  · exact addAll_nodup _ (look1_nodup h)
  · exact look1_nodup h
theorem mem_addM {y : Int} : y ∈ addM M x ↔ y ∈ M ∨ y = x := by rw [← has_iff, has_addM, Bool.or_eq_true, has_iff, decide_eq_true_eq]
theorem addM_all {p : Int → Prop} (h : ∀ y, y ∈ M → p y) (hx : p x) : ∀ y, y ∈ addM M x → p y := fun y hy => (mem_addM.1 hy).elim (h y) (fun e => by rw [e]; exact hx)
theorem addAll_all {p : Int → Prop} {ks : List Int} (h : ∀ y, y ∈ M → p y) (hx : ∀ y, y ∈ ks → p y) : ∀ y, y ∈ addAll M ks → p y := fun y hy => (mem_addAll.1 hy).elim (h y) (hx y)
theorem look1_in (h : ∀ y, y ∈ M → InL L y) (hx : InL L x) : ∀ y, y ∈ look1 L dh kem M x → InL L y := by
  unfold look1; split
  · exact addM_all h hx
  · exact h
theorem openL_in (hf : Fit L) {C : Int → Bool} (hx : InL L x) : ∀ y, y ∈ openL C (tm L x) → InL L y := fun y hy => open_in hf hx (openL_iff.1 hy)
theorem lookF_in (hf : Fit L) (h : ∀ y, y ∈ M → InL L y) (hx : InL L x) : ∀ y, y ∈ lookF L dh kem M x → InL L y := by
  unfold lookF; split
  · exact addAll_all (look1_in h hx) (openL_in hf hx)
  · exact look1_in h hx
theorem look1_le {C : Int → Bool} (hC : StepC L dh kem C C) (h : Le (has M) C) (hx : InL L x) : Le (has (look1 L dh kem M x)) C := by
  unfold look1; split
  · rename_i q
    intro n hn
    rw [has_addM, Bool.or_eq_true, decide_eq_true_eq] at hn
    rcases hn with r | r
    · exact h n r
    · rw [r]; exact (hC x hx).1 (ruleB_mono h id id q)
  · exact h
theorem lookF_le {C : Int → Bool} (hC : StepC L dh kem C C) (h : Le (has M) C) (hx : InL L x) : Le (has (lookF L dh kem M x)) C := by
  have h1 := look1_le hC h hx
  unfold lookF; split
  · rename_i q
    intro n hn
    rw [has_addAll, Bool.or_eq_true, has_iff, has_iff, openL_iff] at hn
    rcases hn with r | r
    · exact h1 n (has_iff.2 r)
    · exact (hC x hx).2 (h1 x q) n (openB_mono h1 r)
  · exact h1
theorem lookF_done : Done L dh kem (has M) (has (lookF L dh kem M x)) x := by
  have h1 : Le (has M) (has (look1 L dh kem M x)) := pre_le look1_pre
  have h2 : Le (has (look1 L dh kem M x)) (has (lookF L dh kem M x)) := by
    unfold lookF; split
    · exact pre_le (addAll_pre _ _)
    · exact Le.refl _
  refine ⟨fun q => h2 x ?_, fun q m r => ?_⟩
  · unfold look1; rw [if_pos q, has_addM]; simp
  · have q1 := h1 x q
    unfold lookF; rw [if_pos q1, has_addAll, Bool.or_eq_true, has_iff (M := openL _ _), openL_iff]
    exact .inr (openB_mono h1 r)
end

/-- The terms that a term's rule asks for beside its parts, and the names of all of which it asks. -/
def othersT (t : Tm) : List Tm := if t.K = 4 then [pubT t.A, pubT t.B] else if t.K = 6 then [kpubT t.A] else if t.K = 7 then [kpubT t.A, boxT t.A t.B] else []
def partsT (t : Tm) : List Int := [t.A, t.B, t.C].take (many t.K)
def asks (L : List Tm) (n : Int) : List Int := partsT (tm L n) ++ [n] ++ (othersT (tm L n)).map (nameOf L)
theorem rule_local {L : List Tm} {dh kem : Bool} {C D : Int → Bool} {n x : Int} (hx : x ∉ asks L n) (h : ∀ y, y ≠ x → C y = D y) :
    ruleB L C dh kem (tm L n) = ruleB L D dh kem (tm L n) ∧ C n = D n ∧ ∀ m, openB C (tm L n) m = openB D (tm L n) m := by
  have q : ∀ y, y ∈ asks L n → C y = D y := fun y hy => h y (fun e => hx (by rw [← e]; exact hy))
  unfold asks at q
  generalize tm L n = t at q
  have hp : ∀ y, y ∈ partsT t → C y = D y := fun y hy => q y (by simp [hy])
  have ho : ∀ u, u ∈ othersT t → hasT L C u = hasT L D u := fun u hu => q _ (by
    rw [List.mem_append]; exact .inr (List.mem_map_of_mem hu))
  have pA : 1 ≤ many t.K → C t.A = D t.A := fun k => hp _ (by
    unfold partsT
    rcases (by have := many_le t.K; omega : many t.K = 1 ∨ many t.K = 2 ∨ many t.K = 3) with e | e | e <;> rw [e] <;> simp)
  have pB : 2 ≤ many t.K → C t.B = D t.B := fun k => hp _ (by
    unfold partsT
    rcases (by have := many_le t.K; omega : many t.K = 2 ∨ many t.K = 3) with e | e <;> rw [e] <;> simp)
  have pC : 3 ≤ many t.K → C t.C = D t.C := fun k => hp _ (by
    unfold partsT
    rw [show many t.K = 3 by have := many_le t.K; omega]; simp)
  refine ⟨?_, q n (by simp), fun m => ?_⟩
  · unfold ruleB
    by_cases c1 : t.K = 1
    · simp [c1]
    by_cases c2 : t.K = 3 ∨ t.K = 5 ∨ t.K = 9
    · simp only [c1, c2, if_true, if_false]
      exact pA (by rcases c2 with e | e | e <;> rw [e] <;> decide)
    by_cases c3 : t.K = 8 ∨ t.K = 11
    · simp only [c1, c2, c3, if_true, if_false]
      have e : many t.K = 2 := by rcases c3 with e | e <;> rw [e] <;> rfl
      rw [pA (by omega), pB (by omega)]
    by_cases c4 : t.K = 10
    · simp only [c1, c2, c3, if_false]
      have e : many t.K = 3 := by rw [c4]; rfl
      rw [if_pos c4, if_pos c4, pA (by omega), pB (by omega), pC (by omega)]
    by_cases c5 : t.K = 4
    · simp only [c1, c2, c3, c4, if_false]
      have e : many t.K = 2 := by rw [c5]; rfl
      rw [if_pos c5, if_pos c5, pA (by omega), pB (by omega), ho (pubT t.A) (by simp [othersT, c5]), ho (pubT t.B) (by simp [othersT, c5])]
    by_cases c6 : t.K = 6
    · simp only [c1, c2, c3, c4, c5, if_false]
      have e : many t.K = 2 := by rw [c6]; rfl
      rw [if_pos c6, if_pos c6, pA (by omega), pB (by omega), ho (kpubT t.A) (by simp [othersT, c6])]
    by_cases c7 : t.K = 7
    · simp only [c1, c2, c3, c4, c5, c6, if_false]
      have e : many t.K = 2 := by rw [c7]; rfl
      rw [if_pos c7, if_pos c7, pA (by omega), pB (by omega), ho (kpubT t.A) (by simp [othersT, c7]), ho (boxT t.A t.B) (by simp [othersT, c7])]
    · simp only [c1, c2, c3, c4, c5, c6, c7, if_false]
  · unfold openB
    by_cases c4 : t.K = 10
    · rw [pA (by rw [c4]; decide)]
    · simp [c4]
theorem Done.local {L : List Tm} {dh kem : Bool} {C D E : Int → Bool} {n x : Int} (hx : x ∉ asks L n) (h : ∀ y, y ≠ x → C y = D y) (k : Done L dh kem C E n) : Done L dh kem D E n := by
  obtain ⟨h1, h2, h3⟩ := rule_local (dh := dh) (kem := kem) hx h
  exact ⟨fun q => k.1 (by rw [h1]; exact q), fun q m r => k.2 (by rw [h2]; exact q) m (by rw [h3]; exact r)⟩
/-- The next one of those that can be made, with all that wait for it looked at. -/
theorem turn_step {L : List Tm} {dh kem : Bool} {M M' : List Int} {i : Nat} {H : Nat → List Int} (hH : ∀ n, InL L n → ∀ on, on ∈ asks L n → n ∈ H on.toNat) (hi : i < M.length)
    (hJ : StepC L dh kem (has (M.take i)) (has M)) (hp : M <+: M') (hall : ∀ n, n ∈ H (M.getD i 0).toNat → Done L dh kem (has (M.take (i + 1))) (has M') n) : StepC L dh kem (has (M'.take (i + 1))) (has M') := by
  intro n hn
  rw [pre_take hp (by omega)]
  by_cases hx : M.getD i 0 ∈ asks L n
  · exact hall n (hH n hn _ hx)
  · refine Done.local hx (C := has (M.take i)) (fun y hy => ?_) ((hJ n hn).up (pre_le hp))
    rw [has_take hi, decide_eq_false hy, Bool.or_false]
theorem look_all {L : List Tm} {dh kem : Bool} {M D : List Int} {x : Int} (hD : Le (has D) (has M)) : Done L dh kem (has D) (has (lookF L dh kem M x)) x := lookF_done.down hD

/-- The names that are noted: those of terms for which rules ask. -/
def asked3 (t : Tm) : Prop := t.K = 3 ∨ t.K = 5 ∨ t.K = 6
instance (t : Tm) : Decidable (asked3 t) := by unfold asked3; infer_instance
def noteOf (L : List Tm) (k : Nat) (t : Tm) : Int := if asked3 t ∧ nameOf L t ≤ (k : Int) then nameOf L t else 0
theorem nameOf_bound (L : List Tm) (t : Tm) : 0 ≤ nameOf L t ∧ nameOf L t ≤ (L.length : Int) := by
  rcases nameOf_cases L t with ⟨h0, _⟩ | ⟨k, hk, h1, h2, _⟩
  · rw [h0]; omega
  · rw [h1]; omega
theorem noteOf_zero (L : List Tm) (t : Tm) : noteOf L 0 t = 0 := by
  have := nameOf_bound L t
  unfold noteOf; split <;> omega
theorem noteOf_all (L : List Tm) {t : Tm} (h : asked3 t) : noteOf L L.length t = nameOf L t := by unfold noteOf; rw [if_pos ⟨h, (nameOf_bound L t).2⟩]
theorem noteOf_same {L : List Tm} (hU : Uniq L) {k : Nat} (hk : k < L.length) (h : asked3 (L.getD k zeroT)) : noteOf L (k + 1) (L.getD k zeroT) = (k : Int) + 1 := by
  unfold noteOf; rw [hU k hk, if_pos ⟨h, by omega⟩]
theorem noteOf_other {L : List Tm} (hU : Uniq L) {k : Nat} (hk : k < L.length) {t : Tm} (h : t ≠ L.getD k zeroT ∨ ¬ asked3 t) : noteOf L (k + 1) t = noteOf L k t := by
  unfold noteOf
  rcases h with h | h
  · have hne : nameOf L t ≠ (k : Int) + 1 := by
      rcases nameOf_cases L t with ⟨h0, _⟩ | ⟨j, hj, h1, h2, _⟩
      · omega
      · rw [h1]; intro e; apply h; rw [← h2]; congr 1; omega
    have e : (nameOf L t ≤ ((k + 1 : Nat) : Int)) ↔ (nameOf L t ≤ (k : Int)) := by omega
    simp only [e]
  · simp [h]

/-- Who waits for whom, behind so many terms. -/
def hangOne (H : Nat → List Int) (n on : Int) : Nat → List Int := fun i => if i = on.toNat then H i ++ [n] else H i
def hangAll (H : Nat → List Int) (n : Int) (ons : List Int) : Nat → List Int := ons.foldl (fun H on => hangOne H n on) H
def hangs (L : List Tm) : Nat → Nat → List Int
  | 0 => fun _ => []
  | k + 1 => hangAll (hangs L k) ((k : Int) + 1) (asks L ((k : Int) + 1))
theorem hangOne_mem {H : Nat → List Int} {n on y : Int} {i : Nat} : y ∈ hangOne H n on i ↔ y ∈ H i ∨ (i = on.toNat ∧ y = n) := by
  unfold hangOne; split
  · rename_i e; simp [e]
  · rename_i e; simp [e]
theorem hangAll_mem : ∀ (ons : List Int) {H : Nat → List Int} {n y : Int} {i : Nat}, y ∈ hangAll H n ons i ↔ y ∈ H i ∨ ((∃ on, on ∈ ons ∧ i = on.toNat) ∧ y = n)
  | [], H, n, y, i => by simp [hangAll]
  | on :: ons, H, n, y, i => by
    show y ∈ hangAll (hangOne H n on) n ons i ↔ _
    rw [hangAll_mem ons, hangOne_mem]
    simp only [List.mem_cons, exists_eq_or_imp]
    constructor
    · rintro ((h | ⟨h, k⟩) | ⟨h, k⟩)
      · exact .inl h
      · exact .inr ⟨.inl h, k⟩
      · exact .inr ⟨.inr h, k⟩
    · rintro (h | ⟨h | h, k⟩)
      · exact .inl (.inl h)
      · exact .inl (.inr ⟨h, k⟩)
      · exact .inr ⟨h, k⟩
theorem hangOne_len (H : Nat → List Int) (n on : Int) (i : Nat) : (hangOne H n on i).length ≤ (H i).length + 1 := by
  unfold hangOne; split <;> simp
theorem hangAll_len : ∀ (ons : List Int) (H : Nat → List Int) (n : Int) (i : Nat), (hangAll H n ons i).length ≤ (H i).length + ons.length
  | [], H, n, i => by simp [hangAll]
  | on :: ons, H, n, i => by
    show (hangAll (hangOne H n on) n ons i).length ≤ _
    have := hangAll_len ons (hangOne H n on) n i
    have := hangOne_len H n on i
    simp; omega
theorem hangAll_take {H : Nat → List Int} {n : Int} {ons : List Int} {k : Nat} (h : k < ons.length) : hangAll H n (ons.take (k + 1)) = hangOne (hangAll H n (ons.take k)) n (ons.getD k 0) := by
  rw [take_getD h]; simp [hangAll, List.foldl_append]
theorem asks_len (L : List Tm) (n : Int) : (asks L n).length ≤ 6 := by
  have h1 : (partsT (tm L n)).length ≤ 3 := by unfold partsT; rw [List.length_take]; simp; omega
  have h2 : (othersT (tm L n)).length ≤ 2 := by unfold othersT; split; · simp
                                                split; · simp
                                                split <;> simp
  unfold asks; simp; omega
theorem hangs_len (L : List Tm) : ∀ k i, (hangs L k i).length ≤ 6 * k
  | 0, i => by simp [hangs]
  | k + 1, i => by
    have h1 := hangs_len L k i
    have h2 := hangAll_len (asks L ((k : Int) + 1)) (hangs L k) ((k : Int) + 1) i
    have h3 := asks_len L ((k : Int) + 1)
    show (hangAll (hangs L k) ((k : Int) + 1) (asks L ((k : Int) + 1)) i).length ≤ _
    omega
theorem hangs_mem {L : List Tm} : ∀ {k : Nat} {n : Int}, 1 ≤ n → n ≤ (k : Int) → ∀ on, on ∈ asks L n → n ∈ hangs L k on.toNat
  | 0, n, h1, h2, on, _ => by omega
  | k + 1, n, h1, h2, on, ho => by
    show n ∈ hangAll (hangs L k) ((k : Int) + 1) (asks L ((k : Int) + 1)) on.toNat
    rw [hangAll_mem]
    rcases (by omega : n ≤ (k : Int) ∨ n = (k : Int) + 1) with q | q
    · exact .inl (hangs_mem h1 q on ho)
    · exact .inr ⟨⟨on, by rw [← q]; exact ho, rfl⟩, q⟩
theorem hangs_in {L : List Tm} : ∀ {k i : Nat} {y : Int}, y ∈ hangs L k i → 1 ≤ y ∧ y ≤ (k : Int)
  | 0, i, y, h => by simp [hangs] at h
  | k + 1, i, y, h => by
    have h' : y ∈ hangAll (hangs L k) ((k : Int) + 1) (asks L ((k : Int) + 1)) i := h
    rw [hangAll_mem] at h'
    rcases h' with q | ⟨_, q⟩
    · have := hangs_in q; omega
    · omega
/-- All of which a term there asks are numbers from 0 up to the last name. -/
theorem parts_mem {L : List Tm} (hS : Sound L) {n : Int} (hn : InL L n) : ∀ y, y ∈ partsT (tm L n) → InL L y := by
  have h := (bare_tm hS hn).2.2.2.2.2
  have hm := many_le (tm L n).K
  have p0 := fun q => h 0 q
  have p1 := fun q => h 1 q
  have p2 := fun q => h 2 q
  intro y hy
  unfold partsT at hy
  rcases (by omega : many (tm L n).K = 0 ∨ many (tm L n).K = 1 ∨ many (tm L n).K = 2 ∨ many (tm L n).K = 3) with e | e | e | e <;> rw [e] at hy <;> simp at hy
  · rw [hy]; exact p0 (by omega)
  · rcases hy with rfl | rfl
    · exact p0 (by omega)
    · exact p1 (by omega)
  · rcases hy with rfl | rfl | rfl
    · exact p0 (by omega)
    · exact p1 (by omega)
    · exact p2 (by omega)
theorem asks_bound {L : List Tm} (hS : Sound L) {n : Int} (hn : InL L n) : ∀ y, y ∈ asks L n → 0 ≤ y ∧ y ≤ (L.length : Int) := by
  intro y hy
  unfold asks at hy
  simp only [List.mem_append, List.mem_singleton, List.mem_map] at hy
  rcases hy with (q | q) | ⟨u, _, rfl⟩
  · have := parts_mem hS hn y q
    unfold InL at this; omega
  · rw [q]; unfold InL at hn; omega
  · exact nameOf_bound L u
end Go.Proofs.Ytlnpfeecaiecaaa
