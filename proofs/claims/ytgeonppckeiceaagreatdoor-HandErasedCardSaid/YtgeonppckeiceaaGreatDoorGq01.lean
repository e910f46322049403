/- Regions that draw their order, taken by hand: one operation that only reads, one that is guarded off, one that may come up. -/
/- The document's helpers of terms: how many parts a kind has. -/
/- The document's May: whether a term may be in a store of so many terms. -/
/- The document's May, for every term and store: it tells whether the term may be, and nothing that was there turns. Condition: the text's length is one of a text. -/
/- The document's store in memory, and its Get, for every store of at most 2^20 terms and every name. -/
/- The document's Put, for every store that the call owns and every term. -/
/- How deep the names of a row of terms are. -/
/- The document's New of a store. -/
/- The program's helpers of terms: what of a term its kind has, the parts of a term, whether a name is one. -/
/- Whether a term may be, as the program tells it, for every term and every store. -/
/- A term of the program as a key of a map: that its keys are told apart, and that each term of well formed fields has one. -/
/- What a store's terms say of names: the name that a term has, what Put answers as a function, and that both ways to say whether a term may be are one. -/
import Derived.Test.YtgeonppckeiceaaGreatDoorProg
import Derived.WalkKit
import Derived.Deep.RegionHeld3
import Derived.WalkSpells
import Derived.WalkLawsBesides
import Derived.Lib.Hide
import Derived.Deep.QuietTactic
import Derived.BigQuiet
import Derived.Deep.AppendLies
import Derived.Deep.RegionLaw
import Derived.Maps.OwnSet
import Derived.Maps.OwnOps
import Derived.DeepKeys4
namespace Go.Proofs.YtgeonppckeiceaaGreatDoor
open Go.RowKit
set_option linter.unusedVariables false
set_option linter.unusedSimpArgs false
theorem g1 {α : Type} (l : List α) (i : Nat) : l.toArray[i]? = l[i]? := by simp
theorem g2 {α : Type} (a : α) (l : List α) (i : Nat) : (a :: l)[i + 1]? = l[i]? := List.getElem?_cons_succ
theorem g3 {α : Type} (a : α) (l : List α) : (a :: l)[0]? = some a := List.getElem?_cons_zero
theorem p1 {α : Type} (l : List α) (i : Nat) (a : α) : l.toArray.setIfInBounds i a = (l.set i a).toArray := List.setIfInBounds_toArray ..
theorem p2 {α : Type} (a b : α) (l : List α) : (a :: l).set 0 b = b :: l := List.set_cons_zero ..
theorem p3 {α : Type} (a b : α) (l : List α) (i : Nat) : (a :: l).set (i + 1) b = a :: l.set i b := List.set_cons_succ ..
section
variable {P : Program} {ops : Array Oper} {Q : Exit → Act → World → Prop} {md : Region.Mode} {S : World → Prop}
theorem tk (i : Nat) {oi : Oper} {v : Value} {fuel : Nat} {listed : Array Bool} {a a' : Act} {w : World} (hi : ops[i]? = some oi := by (simp only [g1, g2, g3]; rfl)) (hw : Region.wanted oi (yielded ops a.tmps) = true := by kernel_rfl)
  (hy : ∀ w, S w → (execOp a.eval oi).run P w = .ok (.value v) w := by ((intro W hSw; (try dsimp only at hSw); go_simp) <;> with_reducible rfl))
  (ha : a.put oi.dst v = a' := by first | (simp only [Act.put, p1, p2, p3]; rfl) | (simp only [Act.put, p1, p2, p3]; done) | rfl)
  (h : wpAnyH P md ops Q S fuel (listed.setIfInBounds i true) a' w) (hQ : ∀ c (a : Act) d v w, Q (.panic c) (a.put d v) w → Q (.panic c) a w := by intro c a d v w h; cases d <;> exact h)
  (hs : Region.noSelect ops = true := by kernel_rfl) (hf : Region.free md ops listed i = true := by kernel_rfl) (hr : (Region.ready md ops listed).contains i = true := by kernel_rfl) (hS : S w := by assumption) : wpAnyH P md ops Q S (fuel + 1) listed a w :=
 wpAnyH_take hi hs hf hr (fun c a w h => hQ c a _ _ w h) (.inl ⟨hw, hy⟩) hS (by rw [ha]; exact h)
theorem tk0 (i : Nat) {oi : Oper} {fuel : Nat} {listed : Array Bool} {a a' : Act} {w : World} (hi : ops[i]? = some oi := by (simp only [g1, g2, g3]; rfl)) (hw : Region.wanted oi (yielded ops a.tmps) = false := by kernel_rfl)
  (ha : a.put oi.dst undef = a' := by first | (simp only [Act.put, p1, p2, p3]; rfl) | (simp only [Act.put, p1, p2, p3]; done) | rfl)
  (h : wpAnyH P md ops Q S fuel (listed.setIfInBounds i true) a' w) (hQ : ∀ c (a : Act) d v w, Q (.panic c) (a.put d v) w → Q (.panic c) a w := by intro c a d v w h; cases d <;> exact h)
  (hs : Region.noSelect ops = true := by kernel_rfl) (hf : Region.free md ops listed i = true := by kernel_rfl) (hr : (Region.ready md ops listed).contains i = true := by kernel_rfl) (hS : S w := by assumption) : wpAnyH P md ops Q S (fuel + 1) listed a w :=
 wpAnyH_take hi hs hf hr (fun c a w h => hQ c a _ _ w h) (.inr ⟨hw, rfl⟩) hS (by rw [ha]; exact h)
theorem rd (i : Nat) {o : Oper} {fuel : Nat} {listed : Array Bool} {a : Act} {w : World} (hi : ops[i]? = some o := by (simp only [g1, g2, g3]; rfl)) (hr : Region.ready md ops listed = [i] := by kernel_rfl)
  (h : ∀ K' : Act → World → Prop, Shut (∀ a w, S w → (S w → wpAnyH P md ops Q S fuel (listed.setIfInBounds i true) a w) → K' a w) → if Region.wanted o (yielded ops a.tmps) = true then Oper.wp P o a w K' Q else K' (a.put o.dst undef) w) : wpAnyH P md ops Q S (fuel + 1) listed a w :=
 wpAnyH_ready hr (by simp) (.cons hi h .nil)
theorem rd2 (i j : Nat) {o p : Oper} {fuel : Nat} {listed : Array Bool} {a : Act} {w : World} (hi : ops[i]? = some o := by (simp only [g1, g2, g3]; rfl)) (hj : ops[j]? = some p := by (simp only [g1, g2, g3]; rfl)) (hr : Region.ready md ops listed = [i, j] := by kernel_rfl)
  (h : ∀ K' : Act → World → Prop, Shut (∀ a w, S w → (S w → wpAnyH P md ops Q S fuel (listed.setIfInBounds i true) a w) → K' a w) → if Region.wanted o (yielded ops a.tmps) = true then Oper.wp P o a w K' Q else K' (a.put o.dst undef) w)
  (h' : ∀ K' : Act → World → Prop, Shut (∀ a w, S w → (S w → wpAnyH P md ops Q S fuel (listed.setIfInBounds j true) a w) → K' a w) → if Region.wanted p (yielded ops a.tmps) = true then Oper.wp P p a w K' Q else K' (a.put p.dst undef) w) : wpAnyH P md ops Q S (fuel + 1) listed a w :=
 wpAnyH_ready hr (by simp) (.cons hi h (.cons hj h' .nil))
end
set_option maxRecDepth 20000
def many (k : Int) : Nat :=
 if k = 3 ∨ k = 5 ∨ k = 9 then 1 else if k = 4 ∨ k = 6 ∨ k = 7 ∨ k = 8 ∨ k = 11 then 2 else if k = 10 then 3 else 0
theorem many_le (k : Int) : many k ≤ 3 := by unfold many; split <;> (try split) <;> (try split) <;> omega
structure Tm where
 K : Int
 S : ByteArray
 N : Int
 A : Int
 B : Int
 C : Int
def prt (A B C : Int) (k : Nat) : Int := if k = 0 then A else if k = 1 then B else C
def MayPost (P : Prop) (w : World) (e : Ending) (w' : World) : Prop := ∃ b : Bool, e = .returned (.bool b) ∧ (b = true ↔ P) ∧ Below w.heap.size w w'
def BadP (n m i : Nat) (p : Int) : Prop := (i < m ∧ (p < 1 ∨ (n : Int) < p)) ∨ (m ≤ i ∧ p ≠ 0)
def May (n : Nat) (K : Int) (S : ByteArray) (N A B C : Int) : Prop :=
 1 ≤ K ∧ K ≤ 11 ∧ (K ≠ 1 → S.toList = []) ∧ (K ≠ 2 → K ≠ 9 → K ≠ 10 → N = 0) ∧ S.size ≤ 1000 ∧ (∀ j, j < 3 → ¬ BadP n (many K) j (prt A B C j)) ∧ (K = 4 → A ≤ B)
def Tm.v (t : Tm) : Value := .agg #[.int .i64 t.K, .string t.S, .int .u64 t.N, .int .i64 t.A, .int .i64 t.B, .int .i64 t.C]
def Tm.cl (t : Tm) : List Value := [.int .i64 t.K, .string t.S, .int .u64 t.N, .int .i64 t.A, .int .i64 t.B, .int .i64 t.C]
def cellsL (L : List Tm) : List Value := L.flatMap Tm.cl
def zeroT : Tm := ⟨0, ⟨#[]⟩, 0, 0, 0, 0⟩
def getT (L : List Tm) (name : Int) : Tm × Bool := if 1 ≤ name ∧ name ≤ (L.length : Int) then (L.getD (name - 1).toNat zeroT, true) else (zeroT, false)
theorem cellsL_at (L : List Tm) : ∀ (k j : Nat), j < 6 → k < L.length → (cellsL L)[k * 6 + j]? = (L.getD k zeroT).cl[j]? := by
 induction L with
 | nil => intro k j _ h; simp at h
 | cons t L ih =>
  intro k j hj hk
  show (t.cl ++ cellsL L)[k * 6 + j]? = _
  cases k with
  | zero => rw [List.getElem?_append_left (by simp [Tm.cl]; omega)]; simp
  | succ k =>
   rw [List.getElem?_append_right (by simp [Tm.cl]; omega)]
   have e : (k + 1) * 6 + j - t.cl.length = k * 6 + j := by simp [Tm.cl]; omega
   rw [e, ih k j hj (by simpa using hk)]
   simp
def eqB (u t : Tm) : Bool := u.K == t.K && (u.S.toList == t.S.toList && (u.N == t.N && (u.A == t.A && (u.B == t.B && u.C == t.C))))
theorem eqB_iff (u t : Tm) : eqB u t = true ↔ u = t := by
 obtain ⟨K', S', N', A', B', C'⟩ := u
 obtain ⟨K, S, N, A, B, C⟩ := t
 simp only [eqB, Bool.and_eq_true, beq_iff_eq, Tm.mk.injEq]
 have : S'.toList = S.toList ↔ S' = S := by
  rw [ByteArray.toList_eq, ByteArray.toList_eq]
  constructor
  ·intro h; apply ByteArray.ext; apply Array.ext'; exact h
  ·rintro rfl; rfl
 rw [this]
structure Chg (S : Nat → Prop) (w w' : World) : Prop where
 os : w'.os = w.os
 tape : w'.tape = w.tape
 output : w'.output = w.output
 size : w.heap.size ≤ w'.heap.size
 block : ∀ k, k < w.heap.size → ¬ S k → w'.heap[k]? = w.heap[k]?
theorem Chg.of_below {S : Nat → Prop} {w w' : World} (h : Below w.heap.size w w') : Chg S w w' := ⟨h.os, h.tape, h.output, h.size, fun k hk _ => h.block k hk⟩
theorem Chg.trans {S : Nat → Prop} {a b c : World} (h : Chg S a b) (k : Chg S b c) : Chg S a c :=
 ⟨k.os.trans h.os, k.tape.trans h.tape, k.output.trans h.output, Nat.le_trans h.size k.size, fun j hj hs => (k.block j (Nat.lt_of_lt_of_le hj h.size) hs).trans (h.block j hj hs)⟩
theorem far_cell {wq w1 : World} {o : Obj} {row : Option Nat} {g : Nat} {v : Value} (hg : g < wq.heap.size) (hgrow : ((wq.alloc o).drew).grownBy w1 row) (hne : row ≠ some g) (c : wq.cell? ⟨g, 0, none⟩ = some v) : w1.cell? ⟨g, 0, none⟩ = some v := by
 have hsz : ((wq.alloc o).drew).heap.size = wq.heap.size + 1 := by show (wq.heap.push _).size = _; simp
 rw [hgrow.cell_far ⟨g, 0, none⟩ (by rw [hsz]; dsimp only; omega) (Ne.symm hne)]
 show (wq.alloc o).cell? _ = _
 rw [World.cell?_alloc_past (hn := hg)]; exact c
theorem far_free {wq w1 : World} {o : Obj} {row : Option Nat} {g : Nat} (hg : g < wq.heap.size) (hgrow : ((wq.alloc o).drew).grownBy w1 row) (hne : row ≠ some g) (c : wq.frozen? ⟨g, 0, none⟩ = false) : w1.frozen? ⟨g, 0, none⟩ = false := by
 have hsz : ((wq.alloc o).drew).heap.size = wq.heap.size + 1 := by show (wq.heap.push _).size = _; simp
 rw [hgrow.frozen_far ⟨g, 0, none⟩ (by rw [hsz]; dsimp only; omega) (Ne.symm hne)]
 show (wq.alloc o).frozen? _ = _
 rw [World.frozen?_alloc_past (hn := hg)]; exact c
def mx (acc : List Nat) (t : Tm) : Nat → Nat
 | 0 => 0
 | j + 1 => max (mx acc t j) (acc.getD (prt t.A t.B t.C j).toNat 0)
def stepD (acc : List Nat) (t : Tm) : List Nat := acc ++ [mx acc t (many t.K) + 1]
def depths : List Tm → List Nat := fun L => L.foldl stepD [0]
theorem depths_snoc (L : List Tm) (t : Tm) : depths (L ++ [t]) = stepD (depths L) t := by simp [depths]
theorem depths_length (L : List Tm) : (depths L).length = L.length + 1 := by
 unfold depths
 suffices h : ∀ (L : List Tm) (acc : List Nat), (L.foldl stepD acc).length = acc.length + L.length by rw [h]; simp; omega
 intro L
 induction L with
 | nil => intro acc; simp
 | cons t L ih => intro acc; rw [List.foldl_cons, ih]; simp [stepD]; omega
def Fit (L : List Tm) : Prop := ∀ k, k < L.length → ∀ j, j < many (L.getD k zeroT).K → 1 ≤ prt (L.getD k zeroT).A (L.getD k zeroT).B (L.getD k zeroT).C j ∧ prt (L.getD k zeroT).A (L.getD k zeroT).B (L.getD k zeroT).C j ≤ (k : Int)
def depthOf (L : List Tm) (name : Int) : Int := if 1 ≤ name ∧ name ≤ (L.length : Int) then ((depths (L.take name.toNat)).getD name.toNat 0 : Nat) else 0
def intsV (l : List Nat) : List Value := l.map fun (n : Nat) => Value.int .i64 n
theorem take_snocT (L : List Tm) (k : Nat) (h : k < L.length) : L.take (k + 1) = L.take k ++ [L.getD k zeroT] := by
 rw [List.take_succ_eq_append_getElem h]; simp [List.getD, h]
theorem mx_le (acc : List Nat) (t : Tm) (M : Nat) (h : ∀ i, acc.getD i 0 ≤ M) : ∀ j, mx acc t j ≤ M := by
 intro j
 induction j with
 | zero => exact Nat.zero_le _
 | succ j ih => have := h (prt t.A t.B t.C j).toNat; simp only [mx]; omega
theorem depths_le (L : List Tm) : ∀ k, k ≤ L.length → ∀ i, (depths (L.take k)).getD i 0 ≤ k := by
 intro k
 induction k with
 | zero => intro _ i; cases i <;> simp [depths]
 | succ k ih =>
  intro hk i
  rw [take_snocT L k (by omega), depths_snoc, stepD]
  have h1 := mx_le _ (L.getD k zeroT) k (ih (by omega)) (many (L.getD k zeroT).K)
  have h2 := ih (by omega) i
  generalize L.getD k zeroT = u at h1 ⊢
  simp only [List.getD_eq_getElem?_getD] at h2 ⊢
  rw [List.getElem?_append]
  split
  ·omega
  ·cases hq : i - (depths (L.take k)).length with
   | zero => simp; omega
   | succ q => simp
theorem info3 : (Tryz.prog.info? 3).map (fun i => (i.zero, i.size, i.bytes)) = some (some (.int .i64 0), 1, 8) := by kernel_rfl
end Go.Proofs.YtgeonppckeiceaaGreatDoor
namespace Go.Proofs.YtgeonppckeiceaaGreatDoor
open Go.RowKit
set_option linter.unusedVariables false
set_option maxRecDepth 20000
def bareT (t : Tm) : Tm :=
 if t.K = 1 then ⟨t.K, t.S, 0, 0, 0, 0⟩ else if t.K = 2 then ⟨t.K, ⟨#[]⟩, t.N, 0, 0, 0⟩ else if t.K = 3 ∨ t.K = 5 then ⟨t.K, ⟨#[]⟩, 0, t.A, 0, 0⟩
 else if t.K = 9 then ⟨t.K, ⟨#[]⟩, t.N, t.A, 0, 0⟩ else if t.K = 10 then ⟨t.K, ⟨#[]⟩, t.N, t.A, t.B, t.C⟩ else ⟨t.K, ⟨#[]⟩, 0, t.A, t.B, 0⟩
def Tm.w (t : Tm) : Value := .agg #[.int .i64 t.K, .string t.S, .int .u64 t.N, .int .i64 t.A, .int .i64 t.B, .int .i64 t.C]
set_option maxHeartbeats 1000000 in
set_option maxRecDepth 100000 in
theorem bare_any (K : Int) (S : ByteArray) (N A B C : Int) (w : World) (h : 1 ≤ K ∧ K ≤ 11) :
  Calls Tryz.prog 159 #[.agg #[.int .i64 K, .string S, .int .u64 N, .int .i64 A, .int .i64 B, .int .i64 C]] w fun e w' =>
   e = .returned (bareT ⟨K, S, N, A, B, C⟩).w ∧ Below w.heap.size w w' := by
 have : K = 1 ∨ K = 2 ∨ K = 3 ∨ K = 4 ∨ K = 5 ∨ K = 6 ∨ K = 7 ∨ K = 8 ∨ K = 9 ∨ K = 10 ∨ K = 11 := by omega
 rcases this with rfl | rfl | rfl | rfl | rfl | rfl | rfl | rfl | rfl | rfl | rfl
 all_goals
  clear h
  go_enter Tryz.func159, Tryz.ntmps159
  go_wp2
  refine bodyPost_ret (v := Tm.w (bareT _)) ?_ rfl ⟨rfl, ?_⟩
  ·simp [results, Tryz.results159, go_sem, Tm.w, bareT]
  ·exact ((Below.refl _ _).alloc (Nat.le_refl _) _).alloc (by simp) _
theorem len_any (g n : Nat) (w : World) (c1 : w.cell? ⟨g, 1, none⟩ = some (.int .i64 n)) :
  Calls Tryz.prog 36 #[.pointer (some ⟨g, 0, none⟩)] w fun e w' => e = .returned (.int .i64 n) ∧ w = w' := by
 go_enter Tryz.func36, Tryz.ntmps36
 go_wp2
 go_ret
 exact ⟨rfl, rfl⟩
theorem has_any (g n : Nat) (name : Int) (w : World) (c1 : w.cell? ⟨g, 1, none⟩ = some (.int .i64 n)) :
  Calls Tryz.prog 112 #[.pointer (some ⟨g, 0, none⟩), .int .i64 name] w fun e w' => e = .returned (.bool (decide (1 ≤ name ∧ name ≤ (n : Int)))) ∧ w = w' := by
 by_cases h1 : 1 ≤ name
 ·have e1 : decide ((1 : Int) ≤ name) = true := by simpa using h1
  have e2 : decide (1 ≤ name ∧ name ≤ (n : Int)) = decide (name ≤ (n : Int)) := by simp [h1]
  rw [e2]
  clear h1 e2
  go_enter Tryz.func112, Tryz.ntmps112
  go_wp2
  go_ret
  exact ⟨rfl, rfl⟩
 ·have e1 : decide ((1 : Int) ≤ name) = false := by simpa using h1
  have e2 : decide (1 ≤ name ∧ name ≤ (n : Int)) = false := by simp [h1]
  rw [e2]
  clear h1 e2
  go_enter Tryz.func112, Tryz.ntmps112
  go_wp2
  go_ret
  exact ⟨rfl, rfl⟩
def partsV (b : Nat) (K : Int) : Value := if many K = 0 then .slice none 0 0 else .slice (some ⟨b, 0, none⟩) (many K) (many K)
def partAt (A B C : Int) (k : Nat) : Int := if k = 0 then A else if k = 1 then B else C
def PartsIn (w : World) (K A B C : Int) (e : Ending) (w' : World) : Prop :=
 ∃ b, e = .returned (partsV b K) ∧ Below w.heap.size w w' ∧ w.heap.size ≤ b ∧ ∀ j, j < many K → w'.cell? ⟨b, j, none⟩ = some (.int .i64 (partAt A B C j))
set_option maxHeartbeats 1000000 in
theorem parts_prog (K : Int) (S : ByteArray) (N A B C : Int) (w : World) :
  Calls Tryz.prog 160 #[.agg #[.int .i64 K, .string S, .int .u64 N, .int .i64 A, .int .i64 B, .int .i64 C]] w (PartsIn w K A B C) := by
 by_cases h : K = 3 ∨ K = 5 ∨ K = 9 ∨ K = 4 ∨ K = 6 ∨ K = 7 ∨ K = 8 ∨ K = 11 ∨ K = 10
 ·rcases h with rfl | rfl | rfl | rfl | rfl | rfl | rfl | rfl | rfl
  all_goals
   go_enter Tryz.func160, Tryz.ntmps160
   go_wp2
   go_ret
   refine ⟨w.heap.size + 1, rfl, ((Below.refl _ _).alloc (Nat.le_refl _) _).alloc (by simp) _, by omega, ?_⟩
   intro j hj
   rw [cell_of_row _ _ j _ _ _ (heap_alloc2_new w _ _)]
   first
    | (have : j < 1 := hj
       obtain rfl : j = 0 := by omega
       rfl)
    | (have : j < 2 := hj
       rcases (by omega : j = 0 ∨ j = 1) with rfl | rfl <;> rfl)
    | (have : j < 3 := hj
       rcases (by omega : j = 0 ∨ j = 1 ∨ j = 2) with rfl | rfl | rfl <;> rfl)
 ·have e : many K = 0 := by unfold many; rw [if_neg (by omega), if_neg (by omega), if_neg (by omega)]
  have h3 : (K == 3) = false := beq_eq_false_iff_ne.2 (by omega)
  have h5 : (K == 5) = false := beq_eq_false_iff_ne.2 (by omega)
  have h9 : (K == 9) = false := beq_eq_false_iff_ne.2 (by omega)
  have h4 : (K == 4) = false := beq_eq_false_iff_ne.2 (by omega)
  have h6 : (K == 6) = false := beq_eq_false_iff_ne.2 (by omega)
  have h7 : (K == 7) = false := beq_eq_false_iff_ne.2 (by omega)
  have h8 : (K == 8) = false := beq_eq_false_iff_ne.2 (by omega)
  have h11 : (K == 11) = false := beq_eq_false_iff_ne.2 (by omega)
  have h10 : (K == 10) = false := beq_eq_false_iff_ne.2 (by omega)
  have E := Lib.hid e
  clear h e
  go_enter Tryz.func160, Tryz.ntmps160
  go_wp2
  go_ret
  refine ⟨w.heap.size + 1, ?_, (Below.refl _ _).alloc (Nat.le_refl _) _, by omega, ?_⟩
  ·unfold partsV; rw [if_pos E.out]; rfl
  ·intro j hj; rw [E.out] at hj; omega
theorem held32 : Tryz.prog.stoodInHeld 116 = false := by kernel_rfl
theorem guard32 : Tryz.prog.eqGuardType Tryz.prog.depth 116 = false := by kernel_rfl
theorem fields32 : Tryz.prog.underlying 116 = some (.struct (Tryz.prog.fieldsOf 116)) := by kernel_rfl
theorem equal_term (u t : Tm) (w : World) : (Op.equalIn 10000 116 u.v t.v).run Tryz.prog w = .ok (eqB u t) w := by
 unfold Tm.v
 rw [run_equalIn_agg _ _ _ _ _ fields32 held32]
 have hf : (Tryz.prog.fieldsOf 116).toList = (match Tryz.prog.underlying 116 with | some (.struct fs) => fs.toList | _ => []) := by kernel_rfl
 rw [hf, Tryz.underlying116]
 have i3 := fun (w : World) (a b : Int) => run_equalIn_int (P := Tryz.prog) w 9998 3 .i64 .i64 a b Tryz.underlying3
 have i30 := fun (w : World) (a b : Int) => run_equalIn_int (P := Tryz.prog) w 9998 23 .u64 .u64 a b Tryz.underlying23
 have i9 := fun (w : World) (a b : ByteArray) => run_equalIn_string (P := Tryz.prog) w 9998 9 a b Tryz.underlying9
 simp only [Op.eqFields, eqB]
 cases h1 : (u.K == t.K)
 ·go_simp
 cases h2 : (u.S.toList == t.S.toList)
 ·go_simp
 cases h3 : (u.N == t.N)
 ·go_simp
 cases h4 : (u.A == t.A)
 ·go_simp
 cases h5 : (u.B == t.B)
 ·go_simp
 cases h6 : (u.C == t.C)
 ·go_simp
 go_simp
theorem neq_termP (u t : Tm) (w : World) : (binOp .neq 116 u.v t.v).run Tryz.prog w = .ok (.bool (!eqB u t)) w := by
 have h := equal_term u t w
 unfold Tm.v at *
 rw [run_neq_struct, h]; rfl
def MayP (n : Nat) (t : Tm) : Prop :=
 1 ≤ t.K ∧ t.K ≤ 11 ∧ bareT t = t ∧ t.S.size ≤ 1000 ∧ ¬ (t.K = 4 ∧ t.B < t.A) ∧ ∀ j, j < many t.K → 1 ≤ partAt t.A t.B t.C j ∧ partAt t.A t.B t.C j ≤ (n : Int)
set_option maxHeartbeats 4000000 in
set_option maxRecDepth 100000 in
theorem mayP_any (g n : Nat) (K : Int) (S : ByteArray) (N A B C : Int) (w : World) (c1 : w.cell? ⟨g, 1, none⟩ = some (.int .i64 n)) (hn : n ≤ 1048576) (hS : S.size ≤ maxLen) :
  Calls Tryz.prog 111 #[.pointer (some ⟨g, 0, none⟩), .agg #[.int .i64 K, .string S, .int .u64 N, .int .i64 A, .int .i64 B, .int .i64 C]] w (MayPost (MayP n ⟨K, S, N, A, B, C⟩) w) := by
 unfold maxLen at hS
 have hgb := Lib.hid (block_lt_of_cell c1)
 have HC := Lib.hid c1
 clear c1
 by_cases k1 : K < 1
 ·have r1 : decide (K < 1) = true := by simpa using k1
  have H := Lib.hid k1
  clear k1
  go_enter Tryz.func111, Tryz.ntmps111
  go_wp2
  go_quiet (fail)
  go_wp2
  go_ret
  exact ⟨false, rfl, ⟨fun h => by simp at h, fun h => by have := h.1; have := H.out; simp only at *; omega⟩, ((Below.refl _ _).alloc (Nat.le_refl _) _).trans ⟨rfl, rfl, rfl, Nat.le_refl _, fun _ _ => rfl⟩⟩
 have r1 : decide (K < 1) = false := by simpa using k1
 by_cases k2 : 12 ≤ K
 ·have r2 : decide ((12 : Int) ≤ K) = true := by simpa using k2
  have H := Lib.hid k2
  clear k1 k2
  go_enter Tryz.func111, Tryz.ntmps111
  go_wp2
  go_quiet (fail)
  go_wp2
  go_ret
  exact ⟨false, rfl, ⟨fun h => by simp at h, fun h => by have := h.2.1; have := H.out; simp only at *; omega⟩, ((Below.refl _ _).alloc (Nat.le_refl _) _).trans ⟨rfl, rfl, rfl, Nat.le_refl _, fun _ _ => rfl⟩⟩
 have r2 : decide ((12 : Int) ≤ K) = false := by simpa using k2
 have HK : Hid (1 ≤ K ∧ K ≤ 11) := Lib.hid ⟨by omega, by omega⟩
 clear k1 k2
 have hN := fun (W : World) => neq_termP ⟨K, S, N, A, B, C⟩ (bareT ⟨K, S, N, A, B, C⟩) W
 obtain ⟨⟨K', S', N', A', B', C'⟩, ht⟩ : ∃ u, u = bareT ⟨K, S, N, A, B, C⟩ := ⟨_, rfl⟩
 rw [← ht] at hN
 have HT := Lib.hid ht
 have hgd := guard32
 have HB : Hid (∀ W : World, Calls Tryz.prog 159 #[.agg #[.int .i64 K, .string S, .int .u64 N, .int .i64 A, .int .i64 B, .int .i64 C]] W fun e w' =>
   e = .returned (.agg #[.int .i64 K', .string S', .int .u64 N', .int .i64 A', .int .i64 B', .int .i64 C']) ∧ Below W.heap.size W w') := Lib.hid (fun W => by
  refine (bare_any K S N A B C W HK.out).mono ?_
  rintro e w' ⟨rfl, hb⟩
  rw [← HT.out]
  exact ⟨rfl, hb⟩)
 clear ht
 unfold Tm.v at hN
 obtain ⟨be, hbe⟩ : ∃ b, b = eqB ⟨K, S, N, A, B, C⟩ ⟨K', S', N', A', B', C'⟩ := ⟨_, rfl⟩
 simp only [] at hN
 rw [← hbe] at hN
 have HQ := Lib.hid hbe
 clear hbe
 go_enter Tryz.func111, Tryz.ntmps111
 go_wp2
 obtain ⟨W, hW⟩ : ∃ W, W = w.alloc (.cells #[.int .i64 K, .string S, .int .u64 N, .int .i64 A, .int .i64 B, .int .i64 C] 116) := ⟨_, rfl⟩
 have z : ∀ j, W.cell? ⟨w.heap.size, j, none⟩ = #[Value.int .i64 K, .string S, .int .u64 N, .int .i64 A, .int .i64 B, .int .i64 C][j]? := fun j => by rw [hW]; exact cell_of_row _ _ j _ _ _ (heap_alloc_new w _)
 have hsz : w.heap.size < W.heap.size := by rw [hW]; simp
 have HBW : Hid (Below w.heap.size w W) := Lib.hid (by rw [hW]; exact (Below.refl _ _).alloc (Nat.le_refl _) _)
 have HZ := Lib.hid z
 rw [← hW]
 clear hW
 have z0 := z 0
 have z1 := z 1
 have z2 := z 2
 have z3 := z 3
 have z4 := z 4
 have z5 := z 5
 simp at z0 z1 z2 z3 z4 z5
 clear z
 go_region_held3 (fun w' => w'.cell? ⟨w.heap.size, 0, none⟩ = some (.int .i64 K) ∧ w'.cell? ⟨w.heap.size, 1, none⟩ = some (.string S) ∧ w'.cell? ⟨w.heap.size, 2, none⟩ = some (.int .u64 N) ∧ w'.cell? ⟨w.heap.size, 3, none⟩ = some (.int .i64 A) ∧ w'.cell? ⟨w.heap.size, 4, none⟩ = some (.int .i64 B) ∧ w'.cell? ⟨w.heap.size, 5, none⟩ = some (.int .i64 C)) (go_keep) (first | (go_at_call 159; refine (HB.out _).mono ?_; rintro e w1 ⟨rfl, hb1⟩; have y0 := (hb1.cell (p := ⟨w.heap.size, 0, none⟩) hsz).trans z0; have y1 := (hb1.cell (p := ⟨w.heap.size, 1, none⟩) hsz).trans z1; have y2 := (hb1.cell (p := ⟨w.heap.size, 2, none⟩) hsz).trans z2; have y3 := (hb1.cell (p := ⟨w.heap.size, 3, none⟩) hsz).trans z3; have y4 := (hb1.cell (p := ⟨w.heap.size, 4, none⟩) hsz).trans z4; have y5 := (hb1.cell (p := ⟨w.heap.size, 5, none⟩) hsz).trans z5))
 have HB1 : Hid (Below w.heap.size w w1) := Lib.hid (HBW.out.drew.trans (hb1.mono (Nat.le_of_lt hsz)))
 have HSZ : Hid (w.heap.size < w1.heap.size) := Lib.hid (Nat.lt_of_lt_of_le hsz hb1.size)
 clear hb1 z0 z1 z2 z3 z4 z5 HBW HZ
 cases be
 ·go_wp2
  go_ret
  refine ⟨false, rfl, ⟨fun h => by simp at h, fun h => ?_⟩, HB1.out⟩
  have h1 := HT.out.trans h.2.2.1
  have h2 := (eqB_iff _ _).2 h1.symm
  exact absurd HQ.out (by rw [h2]; decide)
 have HE : Hid (bareT ⟨K, S, N, A, B, C⟩ = ⟨K, S, N, A, B, C⟩) := Lib.hid (HT.out.symm.trans ((eqB_iff _ _).1 HQ.out.symm).symm)
 clear hN hgd HQ HT HB
 by_cases hl : 1000 < S.size
 ·have l1 : decide ((1000 : Int) < S.size) = true := by simp; omega
  have H := Lib.hid hl
  clear hl
  go_wp2
  go_ret
  exact ⟨false, rfl, ⟨fun h => by simp at h, fun h => by have := h.2.2.2.1; have := H.out; simp only at *; omega⟩, HB1.out⟩
 have l1 : decide ((1000 : Int) < S.size) = false := by simp; omega
 have HL : Hid (S.size ≤ 1000) := Lib.hid (by omega)
 clear hl
 by_cases h4 : K = 4 ∧ B < A
 ·have k4 : (K == 4) = true := by simp [h4.1]
  have ab : decide (B < A) = true := by simpa using h4.2
  have H := Lib.hid h4
  clear h4
  go_wp2
  go_ret
  exact ⟨false, rfl, ⟨fun h => by simp at h, fun h => absurd H.out h.2.2.2.2.1⟩, HB1.out⟩
 have H4 := Lib.hid h4
 have k4s : ((K == 4) = true ∧ decide (B < A) = false) ∨ (K == 4) = false := by
  by_cases k4 : K = 4
  ·left; exact ⟨by simp [k4], by simp; omega⟩
  ·right; simp [k4]
 have hm0 : many K = 0 ∨ 0 < many K := by omega
 clear h4
 rcases k4s with ⟨k4, ab⟩ | k4
 all_goals
  rcases hm0 with hm0 | hm0
  ·have HM := Lib.hid hm0
   clear hm0
   go_wp2_with fail
   refine (parts_prog _ _ _ _ _ _ _).mono ?_
   rintro e w2 ⟨b, rfl, hb2, hbs, hcells⟩
   have hp : partsV b K = .slice none 0 0 := by unfold partsV; rw [if_pos HM.out]
   rw [hp]
   have HB2 : Hid (Below w.heap.size w w2) := Lib.hid (HB1.out.trans (hb2.mono (Nat.le_of_lt HSZ.out)))
   clear hb2 hcells hp hbs
   go_wp2
   go_loop [40] (fun i => i = .int .i64 0) (fun _ => 0)
   case atStart => rfl
   case round =>
    obtain rfl := hrel
    go_wp2
    go_ret
    exact ⟨true, rfl, ⟨fun _ => ⟨HK.out.1, HK.out.2, HE.out, HL.out, H4.out, fun j hj => by have := HM.out; simp only at hj; omega⟩, fun _ => rfl⟩, HB2.out⟩
  ·have HM := Lib.hid hm0
   clear hm0
   go_wp2_with fail
   refine (parts_prog _ _ _ _ _ _ _).mono ?_
   rintro e w2 ⟨b, rfl, hb2, hbs, hcells⟩
   have hp : partsV b K = .slice (some ⟨b, 0, none⟩) (many K) (many K) := by unfold partsV; rw [if_neg (by have := HM.out; omega)]
   rw [hp]
   have HB2 : Hid (Below w.heap.size w w2) := Lib.hid (HB1.out.trans (hb2.mono (Nat.le_of_lt HSZ.out)))
   have HCC := Lib.hid hcells
   have HM3 := Lib.hid (many_le K)
   have cg : w2.cell? ⟨g, 1, none⟩ = some (.int .i64 n) := by rw [HB2.out.cell hgb.out]; exact HC.out
   clear hb2 hcells hp hbs
   go_wp2
   go_loop [40] (fun i => ∃ k : Nat, k ≤ many K ∧ i = .int .i64 k ∧ Hid (∀ j, j < k → 1 ≤ partAt A B C j ∧ partAt A B C j ≤ (n : Int))) (fun i => many K - (intOf i).toNat)
   case atStart => exact ⟨0, Nat.zero_le _, rfl, Lib.hid (fun j h => absurd h (Nat.not_lt_zero _))⟩
   case round =>
    obtain ⟨k, hk, rfl, HJ⟩ := hrel
    by_cases hlt : k < many K
    ·have ck := HCC.out k hlt
     have Hlt := Lib.hid hlt
     have hlt1 : (k : Int) < many K := by omega
     have hk3 : (k : Int) ≤ 3 := by have := HM3.out; omega
     obtain ⟨p, hp⟩ : ∃ p, p = partAt A B C k := ⟨_, rfl⟩
     rw [← hp] at ck
     have HP := Lib.hid hp
     clear hp hk
     go_wp2_with fail
     refine (has_any g n p _ cg).mono ?_
     rintro e w3 ⟨rfl, rfl⟩
     by_cases hq : 1 ≤ p ∧ p ≤ (n : Int)
     ·have hd : decide (1 ≤ p ∧ p ≤ (n : Int)) = true := decide_eq_true hq
      rw [hd]
      have HQ := Lib.hid hq
      clear hq hd
      go_wp2
      go_round
      case rel => exact ⟨k + 1, by have := Hlt.out; omega, by go_num, Lib.hid (fun j hj => by rcases Nat.lt_succ_iff_lt_or_eq.1 hj with h | rfl; exact HJ.out j h; rw [← HP.out]; exact HQ.out)⟩
      case measure => have := Hlt.out; simp [intOf]; omega
     ·have hd : decide (1 ≤ p ∧ p ≤ (n : Int)) = false := decide_eq_false hq
      rw [hd]
      have HQ := Lib.hid hq
      clear hq hd
      go_wp2
      go_ret
      exact ⟨false, rfl, ⟨fun h => by simp at h, fun h => absurd (by rw [HP.out]; exact h.2.2.2.2.2 k Hlt.out) HQ.out⟩, HB2.out⟩
    ·obtain rfl : k = many K := by omega
     clear hlt hk
     go_wp2
     go_ret
     exact ⟨true, rfl, ⟨fun _ => ⟨HK.out.1, HK.out.2, HE.out, HL.out, H4.out, HJ.out⟩, fun _ => rfl⟩, HB2.out⟩
open Go.Maps
theorem laidOut : laidOutB Tryz.prog = true := by kernel_rfl
theorem row32 : 116 < Tryz.prog.types.size := of_decide_eq_true (by kernel_rfl)
theorem wide32 : (match Tryz.prog.underlying 116 with | some (.array _ _) | some (.struct _) => true | _ => false) = true := by kernel_rfl
set_option maxRecDepth 100000 in
theorem law32 : Keyed Tryz.prog 116 := Keyed.of_law (deep_law_laid laidOut (m := 2) (by omega) row32 (by kernel_rfl) wide32)
theorem keyT32 : Tryz.prog.keyType 116 = true := by kernel_rfl
theorem cells32 : Tryz.prog.cellsOf 116 = 6 := by kernel_rfl
theorem cells3 : Tryz.prog.cellsOf 3 = 1 := by kernel_rfl
theorem cells9 : Tryz.prog.cellsOf 9 = 1 := by kernel_rfl
theorem cells30 : Tryz.prog.cellsOf 23 = 1 := by kernel_rfl
theorem term_key (t : Tm) (hS : t.S.size ≤ maxLen) (hK : (Lit.int .i64 t.K).wf = true) (hN : (Lit.int .u64 t.N).wf = true) (hA : (Lit.int .i64 t.A).wf = true) (hB : (Lit.int .i64 t.B).wf = true) (hC : (Lit.int .i64 t.C).wf = true) :
  ∃ l, keyOf Tryz.prog 116 t.v = some l := by
 unfold keyOf
 rw [Tryz.underlying116]
 simp only [keyT32, Bool.true_and]
 have hf : Value.formed Tryz.prog 116 t.v = true := by simp [Value.formed, Tm.v, Tryz.underlying116, cells32]
 rw [if_pos hf]
 obtain ⟨m, hm⟩ : ∃ m, Tryz.prog.types.size = m + 1 := ⟨Tryz.prog.types.size - 1, by have := row32; omega⟩
 rw [hm]
 simp [Program.keyLits, Tm.v, Value.cells, Tryz.underlying116, Tryz.underlying3, Tryz.underlying9, Tryz.underlying23, cells32, cells3, cells9, cells30, hS, hK, hN, hA, hB, hC]
end Go.Proofs.YtgeonppckeiceaaGreatDoor
namespace Go.Proofs.YtgeonppckeiceaaGreatDoor
open Go.RowKit
set_option linter.unusedVariables false
set_option maxRecDepth 20000
def nameOf (L : List Tm) (t : Tm) : Int := match L.findIdx? (fun u => eqB u t) with
 | some k => (k : Int) + 1
 | none => 0
theorem nameOf_cases (L : List Tm) (t : Tm) : (nameOf L t = 0 ∧ ∀ j, j < L.length → L.getD j zeroT ≠ t) ∨
  ∃ k, k < L.length ∧ nameOf L t = (k : Int) + 1 ∧ L.getD k zeroT = t ∧ ∀ j, j < k → L.getD j zeroT ≠ t := by
 unfold nameOf
 cases h : L.findIdx? (fun u => eqB u t) with
 | none =>
  left
  refine ⟨rfl, ?_⟩
  intro j hj hjt
  rw [List.findIdx?_eq_none_iff] at h
  have := h (L.getD j zeroT) (by simp [List.getD, hj])
  rw [hjt] at this
  have h2 := (eqB_iff t t).2 rfl
  rw [h2] at this; cases this
 | some k =>
  right
  rw [List.findIdx?_eq_some_iff_getElem] at h
  obtain ⟨hk, h1, h2⟩ := h
  refine ⟨k, hk, rfl, by have := (eqB_iff _ _).1 h1; simpa [List.getD, hk] using this, ?_⟩
  intro j hj hjt
  have h3 := h2 j hj
  have hjl : j < L.length := Nat.lt_trans hj hk
  simp [List.getD, hjl] at hjt
  rw [hjt] at h3
  exact h3 ((eqB_iff t t).2 rfl)
theorem nameOf_of (L : List Tm) (t : Tm) (k : Nat) (hk : k < L.length) (ht : L.getD k zeroT = t) (hj : ∀ j, j < k → L.getD j zeroT ≠ t) : nameOf L t = (k : Int) + 1 := by
 rcases nameOf_cases L t with ⟨_, h⟩ | ⟨k', hk', h1, h2, h3⟩
 ·exact absurd ht (h k hk)
 ·rcases Nat.lt_trichotomy k k' with q | q | q
  ·exact absurd ht (h3 k q)
  ·rw [q]; exact h1
  ·exact absurd h2 (hj k' q)
theorem nameOf_zero (L : List Tm) (t : Tm) (h : ∀ j, j < L.length → L.getD j zeroT ≠ t) : nameOf L t = 0 := by
 rcases nameOf_cases L t with ⟨h, _⟩ | ⟨k', hk', h1, h2, h3⟩
 ·exact h
 ·exact absurd h2 (h k' hk')
theorem nameOf_le (L : List Tm) (t : Tm) : 0 ≤ nameOf L t ∧ nameOf L t ≤ (L.length : Int) := by
 rcases nameOf_cases L t with ⟨h, _⟩ | ⟨k', hk', h1, h2, h3⟩ <;> omega
theorem getD_snoc_lt (L : List Tm) (t : Tm) (j : Nat) (h : j < L.length) : (L ++ [t]).getD j zeroT = L.getD j zeroT := by simp [List.getD, List.getElem?_append_left h]
theorem getD_snoc_eq (L : List Tm) (t : Tm) : (L ++ [t]).getD L.length zeroT = t := by simp [List.getD]
theorem nameOf_snoc_same (L : List Tm) (t : Tm) (h : nameOf L t = 0) : nameOf (L ++ [t]) t = (L.length : Int) + 1 := by
 rcases nameOf_cases L t with ⟨_, h0⟩ | ⟨k', hk', h1, h2, h3⟩
 ·exact nameOf_of _ _ L.length (by simp) (getD_snoc_eq L t) (fun j hj => by rw [getD_snoc_lt L t j hj]; exact h0 j hj)
 ·omega
theorem nameOf_snoc_other (L : List Tm) (t u : Tm) (h : u ≠ t) : nameOf (L ++ [t]) u = nameOf L u := by
 rcases nameOf_cases L u with ⟨h1, h0⟩ | ⟨k, hk, h1, h2, h3⟩
 ·rw [h1]
  apply nameOf_zero
  intro j hj
  have hj' : j < L.length + 1 := by simpa using hj
  rcases Nat.lt_succ_iff_lt_or_eq.1 hj' with q | rfl
  ·rw [getD_snoc_lt L t j q]; exact h0 j q
  ·rw [getD_snoc_eq]; exact Ne.symm h
 ·rw [h1]
  exact nameOf_of _ _ k (by simp; omega) (by rw [getD_snoc_lt L t k hk]; exact h2) (fun j hj => by rw [getD_snoc_lt L t j (by omega)]; exact h3 j hj)
theorem nameOf_snoc_old (L : List Tm) (t u : Tm) (h : nameOf L u ≠ 0) : nameOf (L ++ [t]) u = nameOf L u := by
 rcases nameOf_cases L u with ⟨h1, h0⟩ | ⟨k, hk, h1, h2, h3⟩
 ·exact absurd h1 h
 ·rw [h1]
  exact nameOf_of _ _ k (by simp; omega) (by rw [getD_snoc_lt L t k hk]; exact h2) (fun j hj => by rw [getD_snoc_lt L t j (by omega)]; exact h3 j hj)
instance (n m i : Nat) (p : Int) : Decidable (BadP n m i p) := by unfold BadP; infer_instance
instance (n : Nat) (K : Int) (S : ByteArray) (N A B C : Int) : Decidable (May n K S N A B C) := by unfold May; infer_instance
def Tm.may (n : Nat) (t : Tm) : Bool := decide (May n t.K t.S t.N t.A t.B t.C)
def putF (L : List Tm) (most : Int) (t : Tm) : Int × Int × List Tm :=
 if t.may L.length = true then (if nameOf L t ≠ 0 then (nameOf L t, 0, L) else if most ≤ (L.length : Int) then (0, 4, L) else ((L.length : Int) + 1, 0, L ++ [t])) else (0, 1, L)
theorem below3 {P : Nat → Prop} : (∀ j, j < 3 → P j) ↔ P 0 ∧ P 1 ∧ P 2 := by
 constructor
 ·intro h; exact ⟨h 0 (by omega), h 1 (by omega), h 2 (by omega)⟩
 ·rintro ⟨h0, h1, h2⟩ j hj
  rcases (by omega : j = 0 ∨ j = 1 ∨ j = 2) with rfl | rfl | rfl <;> assumption
theorem below2 {P : Nat → Prop} : (∀ j, j < 2 → P j) ↔ P 0 ∧ P 1 := by
 constructor
 ·intro h; exact ⟨h 0 (by omega), h 1 (by omega)⟩
 ·rintro ⟨h0, h1⟩ j hj
  rcases (by omega : j = 0 ∨ j = 1) with rfl | rfl <;> assumption
theorem empty_iff (S : ByteArray) : S.toList = [] ↔ S = ⟨#[]⟩ := by
 rw [ByteArray.toList_eq]
 constructor
 ·intro h; apply ByteArray.ext; apply Array.ext'; exact h
 ·rintro rfl; rfl
theorem mayP_iff (n : Nat) (t : Tm) : MayP n t ↔ May n t.K t.S t.N t.A t.B t.C := by
 obtain ⟨K, S, N, A, B, C⟩ := t
 unfold MayP May
 rw [below3]
 simp only [empty_iff]
 by_cases h : 1 ≤ K ∧ K ≤ 11
 ·have : K = 1 ∨ K = 2 ∨ K = 3 ∨ K = 4 ∨ K = 5 ∨ K = 6 ∨ K = 7 ∨ K = 8 ∨ K = 9 ∨ K = 10 ∨ K = 11 := by omega
  rcases this with rfl | rfl | rfl | rfl | rfl | rfl | rfl | rfl | rfl | rfl | rfl
  all_goals
   simp [many, bareT, partAt, prt, BadP, below3, below2, eq_comm (a := (0 : Int)), eq_comm (a := (⟨#[]⟩ : ByteArray))]
   try simp only [and_assoc, and_comm, and_left_comm]
 ·constructor
  ·intro h'; exact absurd ⟨h'.1, h'.2.1⟩ h
  ·intro h'; exact absurd ⟨h'.1, h'.2.1⟩ h
end Go.Proofs.YtgeonppckeiceaaGreatDoor
