/- The program's fieldsIn. -/
import Derived.Test.YtgeonppckeiceaaGreatDoorGq01
import Derived.Test.YtgeonppckeiceaaGreatDoorGq10
import Derived.Test.YtgeonppckeiceaaGreatDoorGq11
import Derived.Deep.CutRange
namespace Go.Proofs.YtgeonppckeiceaaGreatDoor.Ms
open Go.RowKit
set_option linter.unusedVariables false
set_option linter.unusedSimpArgs false
set_option maxRecDepth 20000
def Boxed (w0 w : World) (l : List (Nat × Obj)) : Prop := Below w0.heap.size w0 w ∧ ∀ p, p ∈ l → w0.heap.size ≤ p.1 ∧ w.heap[p.1]? = some p.2
def sesC (q j : Nat) : Array Value := #[ptr q j, .int .u64 1, .int .u64 4294967296]
def namC (q j : Nat) : Array Value := #[ptr q j, .int .u64 1, .int .u64 1048576]
def C1 (q : Nat) : Nat → (Nat → Nat) → Option Value
 | 3, _ => some (.agg (sesC q 1))
 | 7, _ => some (.agg (sesC q 2))
 | _, _ => none
def O1 (q : Nat) (i : Nat) (l : Nat → Bool) (_ : Nat → Nat) (o : Obj) : Prop := match i with
 | 8 => ∃ cs, o = .cells cs 229 (0, 0) ∧ cs.size = 3 ∧ (l 10 = true → cs = sesC q 1)
 | 9 => ∃ cs, o = .cells cs 229 (0, 0) ∧ cs.size = 3 ∧ (l 11 = true → cs = sesC q 2)
 | _ => False
def C2 (q : Nat) : Nat → (Nat → Nat) → Option Value
 | 3, _ => some (.agg (namC q 6))
 | 7, _ => some (.agg (namC q 8))
 | 11, _ => some (.agg (namC q 9))
 | _, _ => none
def O2 (q : Nat) (i : Nat) (l : Nat → Bool) (_ : Nat → Nat) (o : Obj) : Prop := match i with
 | 12 => ∃ cs, o = .cells cs 175 (0, 0) ∧ cs.size = 3 ∧ (l 15 = true → cs = namC q 6)
 | 13 => ∃ cs, o = .cells cs 175 (0, 0) ∧ cs.size = 3 ∧ (l 16 = true → cs = namC q 8)
 | 14 => ∃ cs, o = .cells cs 175 (0, 0) ∧ cs.size = 3 ∧ (l 17 = true → cs = namC q 9)
 | _ => False
def C7 (q : Nat) : Nat → (Nat → Nat) → Option Value
 | 15, _ => some (.agg (namC q 7))
 | 16, _ => some (.iface 175 (.agg (namC q 7)))
 | 24, _ => some (.agg (namC q 10))
 | 25, _ => some (.iface 175 (.agg (namC q 10)))
 | 56, b => some (.map (some (b 0)))
 | _, _ => none
def mk7 : Nat → Nat → Value
 | 0, n => .map (some n)
 | 26, n => .slice (some ⟨n, 0, none⟩) 8 8
 | 38, n => .slice (some ⟨n, 0, none⟩) 5 5
 | 44, n => .slice (some ⟨n, 0, none⟩) 2 2
 | 54, n => .slice (some ⟨n, 0, none⟩) 4 4
 | _, n => .pointer (some ⟨n, 0, none⟩)
def look7 (l1 l2 l3 l4 : Bool) (v1 v2 v3 v4 : Value) (k : Int) : Option Value :=
 if k = 1 then (if l1 then some v1 else none) else if k = 2 then (if l2 then some v2 else none) else if k = 3 then (if l3 then some v3 else none) else if k = 4 then (if l4 then some v4 else none) else none
def O7 (q : Nat) (i : Nat) (l : Nat → Bool) (b : Nat → Nat) (o : Obj) : Prop := match i with
 | 0 => ∃ es c T, o = .map es c ∧ Ents es T ∧ ∀ k, lookT T k = look7 (l 27) (l 39) (l 45) (l 55) (mk7 26 (b 26)) (mk7 38 (b 38)) (mk7 44 (b 44)) (mk7 54 (b 54)) k
 | 26 => o = .cells (fdsV q 1) 170 (0, 0)
 | 38 => o = .cells (fdsV q 2) 170 (0, 0)
 | 44 => o = .cells (fdsV q 3) 170 (0, 0)
 | 54 => o = .cells (fdsV q 4) 170 (0, 0)
 | 57 => ∃ c0, o = .cells #[c0] 235 (0, 0) ∧ (l 58 = true → c0 = .map (some (b 0)))
 | _ => False
theorem ents_look {es : Array MapEntry} {T T' : List (Int × Value)} (h : Ents es T) (h' : Ents es T') (k : Int) : lookT T k = lookT T' k := by
 rcases find_ents k es.toList T 0 h with ⟨q1, q2⟩ | ⟨j, v, q1, q2⟩ <;> rcases find_ents k es.toList T' 0 h' with ⟨r1, r2⟩ | ⟨j', v', r1, r2⟩
 ·rw [q1, r1]
 ·rw [q2] at r2; simp at r2
 ·rw [q2] at r2; simp at r2
 ·rw [q2] at r2; simp at r2; rw [q1, r1, r2.2]
theorem ins1 (l2 l3 l4 : Bool) (v1 v2 v3 v4 : Value) {l1 : Bool} (h : l1 = false) (k : Int) : (match look7 l1 l2 l3 l4 v1 v2 v3 v4 k with | some u => some u | none => if (1 : Int) = k then some v1 else none) = look7 true l2 l3 l4 v1 v2 v3 v4 k := by
 subst h; unfold look7; by_cases h1 : k = 1
 ·subst h1; simp
 ·have : ¬ (1 : Int) = k := fun e => h1 e.symm
  simp only [h1, this, if_false]; split <;> simp_all
theorem ins2 (l1 l3 l4 : Bool) (v1 v2 v3 v4 : Value) {l2 : Bool} (h : l2 = false) (k : Int) : (match look7 l1 l2 l3 l4 v1 v2 v3 v4 k with | some u => some u | none => if (2 : Int) = k then some v2 else none) = look7 l1 true l3 l4 v1 v2 v3 v4 k := by
 subst h; unfold look7; by_cases h1 : k = 2
 ·subst h1; simp
 ·have : ¬ (2 : Int) = k := fun e => h1 e.symm
  simp only [h1, this, if_false]; split <;> simp_all
theorem ins3 (l1 l2 l4 : Bool) (v1 v2 v3 v4 : Value) {l3 : Bool} (h : l3 = false) (k : Int) : (match look7 l1 l2 l3 l4 v1 v2 v3 v4 k with | some u => some u | none => if (3 : Int) = k then some v3 else none) = look7 l1 l2 true l4 v1 v2 v3 v4 k := by
 subst h; unfold look7; by_cases h1 : k = 3
 ·subst h1; simp
 ·have : ¬ (3 : Int) = k := fun e => h1 e.symm
  simp only [h1, this, if_false]; split <;> simp_all
theorem ins4 (l1 l2 l3 : Bool) (v1 v2 v3 v4 : Value) {l4 : Bool} (h : l4 = false) (k : Int) : (match look7 l1 l2 l3 l4 v1 v2 v3 v4 k with | some u => some u | none => if (4 : Int) = k then some v4 else none) = look7 l1 l2 l3 true v1 v2 v3 v4 k := by
 subst h; unfold look7; by_cases h1 : k = 4
 ·subst h1; simp
 ·have : ¬ (4 : Int) = k := fun e => h1 e.symm
  simp only [h1, this, if_false]; split <;> simp_all
def FieldsAt (W w : World) (q A : Nat) : Prop := Below W.heap.size W w ∧ W.heap.size ≤ A ∧ ∃ m es c T b1 b2 b3 b4, w.heap[A]? = some (.cells #[.map (some m)] 235 (0, 0)) ∧ w.heap[m]? = some (.map es c) ∧ Ents es T ∧
 w.heap[b1]? = some (.cells (fdsV q 1) 170 (0, 0)) ∧ w.heap[b2]? = some (.cells (fdsV q 2) 170 (0, 0)) ∧ w.heap[b3]? = some (.cells (fdsV q 3) 170 (0, 0)) ∧ w.heap[b4]? = some (.cells (fdsV q 4) 170 (0, 0)) ∧
 W.heap.size ≤ b1 ∧ W.heap.size ≤ b2 ∧ W.heap.size ≤ b3 ∧ W.heap.size ≤ b4 ∧
 lookT T 1 = some (.slice (some ⟨b1, 0, none⟩) 8 8) ∧ lookT T 2 = some (.slice (some ⟨b2, 0, none⟩) 5 5) ∧ lookT T 3 = some (.slice (some ⟨b3, 0, none⟩) 2 2) ∧ lookT T 4 = some (.slice (some ⟨b4, 0, none⟩) 4 4) ∧
 ∀ k, k ≠ 1 → k ≠ 2 → k ≠ 3 → k ≠ 4 → lookT T k = none
theorem BagI.below2 {W w : World} {A : List Nat} {C : Nat → (Nat → Nat) → Option Value} {mk : Nat → Nat → Value} {OB : Nat → (Nat → Bool) → (Nat → Nat) → Obj → Prop} {l : Nat → Bool} {vs : Nat → Value} (h : BagI W A C mk OB l vs w) : Below W.heap.size W w := h.below
theorem Boxed.next {W w w' : World} {l : List (Nat × Obj)} (h : Boxed W w l) (hb : Below w.heap.size w w') : Boxed W w' l :=
 ⟨h.1.trans (hb.mono h.1.size), fun p hp => ⟨(h.2 p hp).1, (hb.block _ (blk_lt (h.2 p hp).2)).trans (h.2 p hp).2⟩⟩
theorem Boxed.add {W w : World} {l : List (Nat × Obj)} (h : Boxed W w l) {x : Nat} {o : Obj} (hx : W.heap.size ≤ x) (ho : w.heap[x]? = some o) : Boxed W w ((x, o) :: l) :=
 ⟨h.1, fun p hp => by
  rcases List.mem_cons.1 hp with rfl | hp
  ·exact ⟨hx, ho⟩
  ·exact h.2 p hp⟩
theorem boxed4 {W w : World} (q : Nat) {l : List (Nat × Obj)} (h : Boxed W w l) : ∃ w3, Hid (w3 = (((w.alloc (.cells #[.pointer (some ⟨q, 4, none⟩), .int .u64 0, .int .u64 1] 173)).alloc (.cells #[.pointer (some ⟨q, 5, none⟩), .int .u64 1, .int .u64 15] 173)).alloc
  (.cells #[.pointer (some ⟨q, 11, none⟩), .int .u64 0, .int .u64 1000] 229)).alloc (.cells #[.pointer (some ⟨q, 12, none⟩), .int .u64 0, .int .u64 255] 229)) ∧
  Hid (Boxed W w3 ([(w.heap.size, .cells #[ptr q 4, .int .u64 0, .int .u64 1] 173), (w.heap.size + 1, .cells #[ptr q 5, .int .u64 1, .int .u64 15] 173),
   (w.heap.size + 1 + 1, .cells #[ptr q 11, .int .u64 0, .int .u64 1000] 229), (w.heap.size + 1 + 1 + 1, .cells #[ptr q 12, .int .u64 0, .int .u64 255] 229)] ++ l)) := by
 refine ⟨_, Lib.hid rfl, Lib.hid ?_⟩
 have step : ∀ {w : World} {l : List (Nat × Obj)} (h : Boxed W w l) (o : Obj), Boxed W (w.alloc o) ((w.heap.size, o) :: l) := fun {w l} h o => (h.next (below_alloc w o)).add h.1.size (heap_alloc_new w o)
 have h1 := step h (.cells #[ptr q 4, .int .u64 0, .int .u64 1] 173)
 have h2 := step h1 (.cells #[ptr q 5, .int .u64 1, .int .u64 15] 173)
 have h3 := step h2 (.cells #[ptr q 11, .int .u64 0, .int .u64 1000] 229)
 have h4 := step h3 (.cells #[ptr q 12, .int .u64 0, .int .u64 255] 229)
 refine ⟨h4.1, fun p hp => h4.2 p ?_⟩
 simp only [List.cons_append, List.nil_append, List.mem_cons, size_alloc] at hp ⊢
 rcases hp with hp | hp | hp | hp | hp
 ·exact .inr (.inr (.inr (.inl hp)))
 ·exact .inr (.inr (.inl hp))
 ·exact .inr (.inl hp)
 ·exact .inl hp
 ·exact .inr (.inr (.inr (.inr hp)))
theorem Boxed.of {W w : World} (h : Below W.heap.size W w) : Boxed W w [] := ⟨h, fun p hp => by cases hp⟩
theorem castK {K : Act → World → Prop} {a b : Act} {w : World} (h : K a w) (e : a = b) : K b w := e ▸ h
theorem iteT {c A B : Prop} [Decidable c] (h : c) (ha : A) : if c then A else B := by rw [if_pos h]; exact ha
theorem wp_value {P : Program} {o : Oper} {a : Act} {w w' : World} {K : Act → World → Prop} {Q : Exit → Act → World → Prop} {v : Value} (h : (execOp a.eval o).run P w = .ok (.value v) w') (hk : K (a.put o.dst v) w') : Oper.wp P o a w K Q := by
 unfold Oper.wp; rw [h]; exact hk
def row8 (q : Nat) (u v : Value) : Sem Next := do pure (.value (← Instr.buildSlice 165 8 #[(0, Fd.v q (.ses 1 1 4294967296)), (1, Fd.v q .ver), (2, Fd.v q (.int 4 0 1)), (3, Fd.v q (.nam 6)), (4, u), (5, Fd.v q (.nam 8)), (6, Fd.v q (.nam 9)), (7, v)]))
def row5 (q : Nat) : Sem Next := do pure (.value (← Instr.buildSlice 165 5 #[(0, Fd.v q (.ses 1 1 4294967296)), (1, Fd.v q (.ses 2 1 4294967296)), (2, Fd.v q (.nam 6)), (3, Fd.v q (.nam 8)), (4, Fd.v q (.nam 9))]))
def row2 (q : Nat) : Sem Next := do pure (.value (← Instr.buildSlice 165 2 #[(0, Fd.v q (.ses 2 1 4294967296)), (1, Fd.v q (.int 5 1 15))]))
def row4 (q : Nat) : Sem Next := do pure (.value (← Instr.buildSlice 165 4 #[(0, Fd.v q (.ses 2 1 4294967296)), (1, Fd.v q (.ses 11 0 1000)), (2, Fd.v q (.ses 12 0 255)), (3, Fd.v q (.nam 9))]))
theorem row2_run (q : Nat) (w : World) : (row2 q).run Tryz.prog w = .ok (.value (.slice (some ⟨w.heap.size, 0, none⟩) 2 2)) (w.alloc (.cells (fdsV q 3) 170 (0, 0))) := by kernel_rfl
theorem row4_run (q : Nat) (w : World) : (row4 q).run Tryz.prog w = .ok (.value (.slice (some ⟨w.heap.size, 0, none⟩) 4 4)) (w.alloc (.cells (fdsV q 4) 170 (0, 0))) := by kernel_rfl
theorem row8_run (q : Nat) (w : World) : (row8 q (Fd.v q (.nam 7)) (Fd.v q (.nam 10))).run Tryz.prog w = .ok (.value (.slice (some ⟨w.heap.size, 0, none⟩) 8 8)) (w.alloc (.cells (fdsV q 1) 170 (0, 0))) := by kernel_rfl
theorem row5_run (q : Nat) (w : World) : (row5 q).run Tryz.prog w = .ok (.value (.slice (some ⟨w.heap.size, 0, none⟩) 5 5)) (w.alloc (.cells (fdsV q 2) 170 (0, 0))) := by kernel_rfl
set_option maxHeartbeats 8000000 in
set_option maxRecDepth 100000 in
theorem fieldsIn_any (q : Nat) (W : World) :
  Calls Tryz.prog 106 #[ptr q 0] W fun e W' => ∃ A, e = .returned (.func (.func 154) #[] #[.pointer (some ⟨A, 0, none⟩)]) ∧ FieldsAt W W' q A := by
 have hmf : ∀ (fn : Fn) (first cap : Array Value) (w : World), (Instr.makeFunc fn first cap).run Tryz.prog w = .ok (.func fn first cap) w := fun _ _ _ _ => rfl
 unfold ptr
 go_enter Tryz.func106, Tryz.ntmps106
 go_wp2_with fail
 go_cut [3, 4] from 13 to 20 (fun s3 s4 wx => ∃ x y, s3 = .pointer (some ⟨x, 0, none⟩) ∧ s4 = .pointer (some ⟨y, 0, none⟩) ∧ Hid (Boxed W wx ([(x, .cells (sesC q 1) 229), (y, .cells (sesC q 2) 229)] ++ [])))
 case first =>
  refine wp_region_held_drew (S := fun w => Below W.heap.size W w) (by kernel_rfl) (drewN_below2 (Nat.le_refl _) 1) (fun hHeld => ?_)
  refine tk 0 (h := ?_)
  refine tk 1 (h := ?_)
  refine tk 2 (h := ?_)
  refine tk 4 (h := ?_)
  refine tk 5 (h := ?_)
  refine tk 6 (h := ?_)
  refine wpAnyH_from (F := ?F1) [3, 7, 8, 9, 10, 11] (BagI W [8, 9] (C1 q) (fun _ b => ptr b 0) (O1 q)) #[true, true, true, false, true, true, true, false, false, false, false, false] (by kernel_rfl) (by kernel_rfl) (by kernel_rfl) (by kernel_rfl) (by kernel_rfl) (by kernel_rfl) (by kernel_rfl) ?hF ?hput ?h0 hHeld ?hI ?step ?done
  case hF => intro vs; simp only [putAll, List.getElem?_toArray, List.getElem?_cons_succ, List.getElem?_cons_zero, Option.bind_some, Act.put, List.setIfInBounds_toArray, List.set_cons_zero, List.set_cons_succ]; rfl
  case hput =>
   intro i hi vs v
   simp only [List.mem_cons, List.not_mem_nil, or_false] at hi
   rcases hi with rfl | rfl | rfl | rfl | rfl | rfl <;> kernel_rfl
  case h0 => kernel_rfl
  case hI =>
   refine BagI.start hHeld (fun i hi => ?_) (fun i b v hi => ?_)
   ·simp at hi; rcases hi with rfl | rfl <;> decide
   ·unfold C1 at hi; split at hi <;> first | decide | cases hi
  case step =>
   intro l vs w i o hi ho hl0 ha hcl hI hS K' hK
   simp only [List.mem_cons, List.not_mem_nil, or_false] at hi
   rcases hi with rfl | rfl | rfl | rfl | rfl | rfl
   all_goals simp only [List.getElem?_toArray, List.getElem?_cons_succ, List.getElem?_cons_zero, Option.some.injEq] at ho
   all_goals subst ho
   ·go_simp
    go_at_call 152
    refine (sessionIn_any _ _).mono ?_
    rintro e w1 ⟨rfl, hb1⟩
    exact hK.out _ _ (hS.trans (hb1.mono hS.size)) (hI.const (by decide) hb1 (fun _ _ => rfl) (fun j b o hj _ h => by
     simp at hj; rcases hj with rfl | rfl <;> exact h))
   ·go_simp
    go_at_call 152
    refine (sessionIn_any _ _).mono ?_
    rintro e w1 ⟨rfl, hb1⟩
    exact hK.out _ _ (hS.trans (hb1.mono hS.size)) (hI.const (by decide) hb1 (fun _ _ => rfl) (fun j b o hj _ h => by
     simp at hj; rcases hj with rfl | rfl <;> exact h))
   ·have n0 : l 10 = false := by
     cases e : l 10 with
     | false => rfl
     | true => rw [hcl 10 8 (by kernel_rfl) e] at hl0; cases hl0
    go_simp
    exact hK.out _ _ (hS.trans ((below_alloc _ _).mono hS.size)) (hI.alloc (by decide) hl0 _ (fun _ => rfl) (fun j b n _ => by unfold C1; split <;> rfl) rfl (fun j b o hj _ _ h => by
     simp at hj; rcases hj with rfl | rfl <;> exact h) (fun b => ⟨_, rfl, rfl, fun h => by
      have h : l 10 = true := h
      rw [n0] at h; cases h⟩))
   ·have n0 : l 11 = false := by
     cases e : l 11 with
     | false => rfl
     | true => rw [hcl 11 9 (by kernel_rfl) e] at hl0; cases hl0
    go_simp
    exact hK.out _ _ (hS.trans ((below_alloc _ _).mono hS.size)) (hI.alloc (by decide) hl0 _ (fun _ => rfl) (fun j b n _ => by unfold C1; split <;> rfl) rfl (fun j b o hj _ _ h => by
     simp at hj; rcases hj with rfl | rfl <;> exact h) (fun b => ⟨_, rfl, rfl, fun h => by
      have h : l 11 = true := h
      rw [n0] at h; cases h⟩))
   ·have la : l 8 = true := ha 8 (by kernel_rfl)
    have lc : l 3 = true := ha 3 (by kernel_rfl)
    obtain ⟨b, ob, hbag, f1, f2, f3⟩ := hI
    have e1 : vs 8 = ptr (b 8) 0 := f2 8 (by decide) la
    have e2 : vs 3 = .agg (sesC q 1) := f1 3 _ rfl lc
    obtain ⟨cs, e8, z8, _⟩ := f3 8 (by decide) la
    have a8 := hbag.at_ 8 (by simp [la])
    rw [e8] at a8
    obtain ⟨c0, c1, c2, rfl⟩ := three_cells z8
    have q0 := cell_at 0 a8.2
    have q1 := cell_at 1 a8.2
    have q2 := cell_at 2 a8.2
    simp at q0 q1 q2
    have z0 := frz_of_row 0 a8.2
    have z1 := frz_of_row 1 a8.2
    have z2 := frz_of_row 2 a8.2
    unfold ptr at e1
    unfold sesC ptr at e2
    have hI : BagI W [8, 9] (C1 q) (fun _ b => ptr b 0) (O1 q) l vs w := ⟨b, ob, hbag, f1, f2, f3⟩
    have hI' : ∀ v, BagI W [8, 9] (C1 q) (fun _ b => ptr b 0) (O1 q) (upd l 10 true) (upd vs 10 v) (((w.setCell ⟨b 8, 0, none⟩ (.pointer (some ⟨q, 1, none⟩))).setCell ⟨b 8, 1, none⟩ (.int .u64 1)).setCell ⟨b 8, 2, none⟩ (.int .u64 4294967296)) := fun v => hI.turn (k := 8) (by decide) (by decide) la (fun _ => rfl) (fun b' ob' h1 h2 h3 h4 h5 => by
     rw [e1] at h1
     have hbb : b' 8 = b 8 := by simp [ptr] at h1; exact h1.symm
     obtain ⟨cs', rfl, z', _⟩ := h2
     obtain ⟨d0, d1, d2, rfl⟩ := three_cells z'
     rw [hbb] at h3 ⊢
     exact ⟨_, Chg.setCell3 _ _ _ _ _ _ _ _, row_set3 _ _ _ h3, ⟨_, rfl, rfl, fun _ => rfl⟩⟩)
     (fun j b o hj hne _ h => by simp at hj; rcases hj with rfl | rfl <;> first | exact absurd rfl hne | exact h)
    have hlo := a8.1
    clear a8 f1 f2 f3 hbag hI
    dsimp only
    rw [e1, e2]
    go_simp
    have hK2 := hK.out undef _ (hI' undef).below2 (hI' undef)
    dsimp only at hK2
    rw [e1, e2] at hK2
    exact hK2
   ·have la : l 9 = true := ha 9 (by kernel_rfl)
    have lc : l 7 = true := ha 7 (by kernel_rfl)
    obtain ⟨b, ob, hbag, f1, f2, f3⟩ := hI
    have e1 : vs 9 = ptr (b 9) 0 := f2 9 (by decide) la
    have e2 : vs 7 = .agg (sesC q 2) := f1 7 _ rfl lc
    obtain ⟨cs, e8, z8, _⟩ := f3 9 (by decide) la
    have a8 := hbag.at_ 9 (by simp [la])
    rw [e8] at a8
    obtain ⟨c0, c1, c2, rfl⟩ := three_cells z8
    have q0 := cell_at 0 a8.2
    have q1 := cell_at 1 a8.2
    have q2 := cell_at 2 a8.2
    simp at q0 q1 q2
    have z0 := frz_of_row 0 a8.2
    have z1 := frz_of_row 1 a8.2
    have z2 := frz_of_row 2 a8.2
    unfold ptr at e1
    unfold sesC ptr at e2
    have hI : BagI W [8, 9] (C1 q) (fun _ b => ptr b 0) (O1 q) l vs w := ⟨b, ob, hbag, f1, f2, f3⟩
    have hI' : ∀ v, BagI W [8, 9] (C1 q) (fun _ b => ptr b 0) (O1 q) (upd l 11 true) (upd vs 11 v) (((w.setCell ⟨b 9, 0, none⟩ (.pointer (some ⟨q, 2, none⟩))).setCell ⟨b 9, 1, none⟩ (.int .u64 1)).setCell ⟨b 9, 2, none⟩ (.int .u64 4294967296)) := fun v => hI.turn (k := 9) (by decide) (by decide) la (fun _ => rfl) (fun b' ob' h1 h2 h3 h4 h5 => by
     rw [e1] at h1
     have hbb : b' 9 = b 9 := by simp [ptr] at h1; exact h1.symm
     obtain ⟨cs', rfl, z', _⟩ := h2
     obtain ⟨d0, d1, d2, rfl⟩ := three_cells z'
     rw [hbb] at h3 ⊢
     exact ⟨_, Chg.setCell3 _ _ _ _ _ _ _ _, row_set3 _ _ _ h3, ⟨_, rfl, rfl, fun _ => rfl⟩⟩)
     (fun j b o hj hne _ h => by simp at hj; rcases hj with rfl | rfl <;> first | exact absurd rfl hne | exact h)
    have hlo := a8.1
    clear a8 f1 f2 f3 hbag hI
    dsimp only
    rw [e1, e2]
    go_simp
    have hK2 := hK.out undef _ (hI' undef).below2 (hI' undef)
    dsimp only at hK2
    rw [e1, e2] at hK2
    exact hK2
  case done =>
   intro l vs w hl hI hS
   obtain ⟨b, ob, hbag, f1, f2, f3⟩ := hI
   rw [f2 8 (by decide) (hl 8 (by decide)), f2 9 (by decide) (hl 9 (by decide))]
   go_wp2_with fail
   go_meet
   obtain ⟨c8, e8, _, k8⟩ := f3 8 (by decide) (hl 8 (by decide))
   have a8 := hbag.at_ 8 (by simp [hl])
   rw [e8, k8 (hl 10 (by decide))] at a8
   obtain ⟨c9, e9, _, k9⟩ := f3 9 (by decide) (hl 9 (by decide))
   have a9 := hbag.at_ 9 (by simp [hl])
   rw [e9, k9 (hl 11 (by decide))] at a9
   refine ⟨_, _, rfl, rfl, Lib.hid ?_⟩
   exact ((Boxed.of hbag.below).add a9.1 a9.2).add a8.1 a8.2
 obtain ⟨x3, x4, rfl, rfl, HB1⟩ := hcut
 go_wp2_with fail
 obtain ⟨w2, hw2⟩ : ∃ w2, w2 = wc := ⟨_, rfl⟩
 rw [← hw2] at HB1 ⊢
 clear hw2
 go_cut [5, 6, 7] from 21 to 32 (fun s5 s6 s7 wx => ∃ x y z, s5 = .pointer (some ⟨x, 0, none⟩) ∧ s6 = .pointer (some ⟨y, 0, none⟩) ∧ s7 = .pointer (some ⟨z, 0, none⟩) ∧ Hid (Boxed W wx ([(x, .cells (namC q 6) 175), (y, .cells (namC q 8) 175), (z, .cells (namC q 9) 175)] ++ [(x3, .cells (sesC q 1) 229), (x4, .cells (sesC q 2) 229)])))
 case first =>
  refine wp_region_held_drew (S := fun w => Below w2.heap.size w2 w) (by kernel_rfl) (drewN_below2 (Nat.le_refl _) 1) (fun hHeld => ?_)
  refine tk 0 (h := ?_)
  refine tk 1 (h := ?_)
  refine tk 2 (h := ?_)
  refine tk 4 (h := ?_)
  refine tk 5 (h := ?_)
  refine tk 6 (h := ?_)
  refine tk 8 (h := ?_)
  refine tk 9 (h := ?_)
  refine tk 10 (h := ?_)
  refine wpAnyH_from (F := ?F2) [3, 7, 11, 12, 13, 14, 15, 16, 17] (BagI w2 [12, 13, 14] (C2 q) (fun _ b => ptr b 0) (O2 q)) #[true, true, true, false, true, true, true, false, true, true, true, false, false, false, false, false, false, false] (by kernel_rfl) (by kernel_rfl) (by kernel_rfl) (by kernel_rfl) (by kernel_rfl) (by kernel_rfl) (by kernel_rfl) ?hF ?hput ?h0 hHeld ?hI ?step ?done
  case hF => intro vs; simp only [putAll, List.getElem?_toArray, List.getElem?_cons_succ, List.getElem?_cons_zero, Option.bind_some, Act.put, List.setIfInBounds_toArray, List.set_cons_zero, List.set_cons_succ]; rfl
  case hput =>
   intro i hi vs v
   simp only [List.mem_cons, List.not_mem_nil, or_false] at hi
   rcases hi with rfl | rfl | rfl | rfl | rfl | rfl | rfl | rfl | rfl <;> kernel_rfl
  case h0 => kernel_rfl
  case hI =>
   refine BagI.start hHeld (fun i hi => ?_) (fun i b v hi => ?_)
   ·simp at hi; rcases hi with rfl | rfl | rfl <;> decide
   ·unfold C2 at hi; split at hi <;> first | decide | cases hi
  case step =>
   intro l vs w i o hi ho hl0 ha hcl hI hS K' hK
   simp only [List.mem_cons, List.not_mem_nil, or_false] at hi
   rcases hi with rfl | rfl | rfl | rfl | rfl | rfl | rfl | rfl | rfl
   all_goals simp only [List.getElem?_toArray, List.getElem?_cons_succ, List.getElem?_cons_zero, Option.some.injEq] at ho
   all_goals subst ho
   ·go_simp
    go_at_call 153
    refine (nameIn_any _ _).mono ?_
    rintro e w1 ⟨rfl, hb1⟩
    exact hK.out _ _ (hS.trans (hb1.mono hS.size)) (hI.const (by decide) hb1 (fun _ _ => rfl) (fun j b o hj _ h => by
     simp at hj; rcases hj with rfl | rfl | rfl <;> exact h))
   ·go_simp
    go_at_call 153
    refine (nameIn_any _ _).mono ?_
    rintro e w1 ⟨rfl, hb1⟩
    exact hK.out _ _ (hS.trans (hb1.mono hS.size)) (hI.const (by decide) hb1 (fun _ _ => rfl) (fun j b o hj _ h => by
     simp at hj; rcases hj with rfl | rfl | rfl <;> exact h))
   ·go_simp
    go_at_call 153
    refine (nameIn_any _ _).mono ?_
    rintro e w1 ⟨rfl, hb1⟩
    exact hK.out _ _ (hS.trans (hb1.mono hS.size)) (hI.const (by decide) hb1 (fun _ _ => rfl) (fun j b o hj _ h => by
     simp at hj; rcases hj with rfl | rfl | rfl <;> exact h))
   ·have n0 : l 15 = false := by
     cases e : l 15 with
     | false => rfl
     | true => rw [hcl 15 12 (by kernel_rfl) e] at hl0; cases hl0
    go_simp
    exact hK.out _ _ (hS.trans ((below_alloc _ _).mono hS.size)) (hI.alloc (by decide) hl0 _ (fun _ => rfl) (fun j b n _ => by unfold C2; split <;> rfl) rfl (fun j b o hj _ _ h => by
     simp at hj; rcases hj with rfl | rfl | rfl <;> exact h) (fun b => ⟨_, rfl, rfl, fun h => by
      have h : l 15 = true := h
      rw [n0] at h; cases h⟩))
   ·have n0 : l 16 = false := by
     cases e : l 16 with
     | false => rfl
     | true => rw [hcl 16 13 (by kernel_rfl) e] at hl0; cases hl0
    go_simp
    exact hK.out _ _ (hS.trans ((below_alloc _ _).mono hS.size)) (hI.alloc (by decide) hl0 _ (fun _ => rfl) (fun j b n _ => by unfold C2; split <;> rfl) rfl (fun j b o hj _ _ h => by
     simp at hj; rcases hj with rfl | rfl | rfl <;> exact h) (fun b => ⟨_, rfl, rfl, fun h => by
      have h : l 16 = true := h
      rw [n0] at h; cases h⟩))
   ·have n0 : l 17 = false := by
     cases e : l 17 with
     | false => rfl
     | true => rw [hcl 17 14 (by kernel_rfl) e] at hl0; cases hl0
    go_simp
    exact hK.out _ _ (hS.trans ((below_alloc _ _).mono hS.size)) (hI.alloc (by decide) hl0 _ (fun _ => rfl) (fun j b n _ => by unfold C2; split <;> rfl) rfl (fun j b o hj _ _ h => by
     simp at hj; rcases hj with rfl | rfl | rfl <;> exact h) (fun b => ⟨_, rfl, rfl, fun h => by
      have h : l 17 = true := h
      rw [n0] at h; cases h⟩))
   ·have la : l 12 = true := ha 12 (by kernel_rfl)
    have lc : l 3 = true := ha 3 (by kernel_rfl)
    obtain ⟨b, ob, hbag, f1, f2, f3⟩ := hI
    have e1 : vs 12 = ptr (b 12) 0 := f2 12 (by decide) la
    have e2 : vs 3 = .agg (namC q 6) := f1 3 _ rfl lc
    obtain ⟨cs, e8, z8, _⟩ := f3 12 (by decide) la
    have a8 := hbag.at_ 12 (by simp [la])
    rw [e8] at a8
    obtain ⟨c0, c1, c2, rfl⟩ := three_cells z8
    have q0 := cell_at 0 a8.2
    have q1 := cell_at 1 a8.2
    have q2 := cell_at 2 a8.2
    simp at q0 q1 q2
    have z0 := frz_of_row 0 a8.2
    have z1 := frz_of_row 1 a8.2
    have z2 := frz_of_row 2 a8.2
    unfold ptr at e1
    unfold namC ptr at e2
    have hI : BagI w2 [12, 13, 14] (C2 q) (fun _ b => ptr b 0) (O2 q) l vs w := ⟨b, ob, hbag, f1, f2, f3⟩
    have hI' : ∀ v, BagI w2 [12, 13, 14] (C2 q) (fun _ b => ptr b 0) (O2 q) (upd l 15 true) (upd vs 15 v) (((w.setCell ⟨b 12, 0, none⟩ (.pointer (some ⟨q, 6, none⟩))).setCell ⟨b 12, 1, none⟩ (.int .u64 1)).setCell ⟨b 12, 2, none⟩ (.int .u64 1048576)) := fun v => hI.turn (k := 12) (by decide) (by decide) la (fun _ => rfl) (fun b' ob' h1 h2 h3 h4 h5 => by
     rw [e1] at h1
     have hbb : b' 12 = b 12 := by simp [ptr] at h1; exact h1.symm
     obtain ⟨cs', rfl, z', _⟩ := h2
     obtain ⟨d0, d1, d2, rfl⟩ := three_cells z'
     rw [hbb] at h3 ⊢
     exact ⟨_, Chg.setCell3 _ _ _ _ _ _ _ _, row_set3 _ _ _ h3, ⟨_, rfl, rfl, fun _ => rfl⟩⟩)
     (fun j b o hj hne _ h => by simp at hj; rcases hj with rfl | rfl | rfl <;> first | exact absurd rfl hne | exact h)
    have hlo := a8.1
    clear a8 f1 f2 f3 hbag hI
    dsimp only
    rw [e1, e2]
    go_simp
    have hK2 := hK.out undef _ (hI' undef).below2 (hI' undef)
    dsimp only at hK2
    rw [e1, e2] at hK2
    exact hK2
   ·have la : l 13 = true := ha 13 (by kernel_rfl)
    have lc : l 7 = true := ha 7 (by kernel_rfl)
    obtain ⟨b, ob, hbag, f1, f2, f3⟩ := hI
    have e1 : vs 13 = ptr (b 13) 0 := f2 13 (by decide) la
    have e2 : vs 7 = .agg (namC q 8) := f1 7 _ rfl lc
    obtain ⟨cs, e8, z8, _⟩ := f3 13 (by decide) la
    have a8 := hbag.at_ 13 (by simp [la])
    rw [e8] at a8
    obtain ⟨c0, c1, c2, rfl⟩ := three_cells z8
    have q0 := cell_at 0 a8.2
    have q1 := cell_at 1 a8.2
    have q2 := cell_at 2 a8.2
    simp at q0 q1 q2
    have z0 := frz_of_row 0 a8.2
    have z1 := frz_of_row 1 a8.2
    have z2 := frz_of_row 2 a8.2
    unfold ptr at e1
    unfold namC ptr at e2
    have hI : BagI w2 [12, 13, 14] (C2 q) (fun _ b => ptr b 0) (O2 q) l vs w := ⟨b, ob, hbag, f1, f2, f3⟩
    have hI' : ∀ v, BagI w2 [12, 13, 14] (C2 q) (fun _ b => ptr b 0) (O2 q) (upd l 16 true) (upd vs 16 v) (((w.setCell ⟨b 13, 0, none⟩ (.pointer (some ⟨q, 8, none⟩))).setCell ⟨b 13, 1, none⟩ (.int .u64 1)).setCell ⟨b 13, 2, none⟩ (.int .u64 1048576)) := fun v => hI.turn (k := 13) (by decide) (by decide) la (fun _ => rfl) (fun b' ob' h1 h2 h3 h4 h5 => by
     rw [e1] at h1
     have hbb : b' 13 = b 13 := by simp [ptr] at h1; exact h1.symm
     obtain ⟨cs', rfl, z', _⟩ := h2
     obtain ⟨d0, d1, d2, rfl⟩ := three_cells z'
     rw [hbb] at h3 ⊢
     exact ⟨_, Chg.setCell3 _ _ _ _ _ _ _ _, row_set3 _ _ _ h3, ⟨_, rfl, rfl, fun _ => rfl⟩⟩)
     (fun j b o hj hne _ h => by simp at hj; rcases hj with rfl | rfl | rfl <;> first | exact absurd rfl hne | exact h)
    have hlo := a8.1
    clear a8 f1 f2 f3 hbag hI
    dsimp only
    rw [e1, e2]
    go_simp
    have hK2 := hK.out undef _ (hI' undef).below2 (hI' undef)
    dsimp only at hK2
    rw [e1, e2] at hK2
    exact hK2
   ·have la : l 14 = true := ha 14 (by kernel_rfl)
    have lc : l 11 = true := ha 11 (by kernel_rfl)
    obtain ⟨b, ob, hbag, f1, f2, f3⟩ := hI
    have e1 : vs 14 = ptr (b 14) 0 := f2 14 (by decide) la
    have e2 : vs 11 = .agg (namC q 9) := f1 11 _ rfl lc
    obtain ⟨cs, e8, z8, _⟩ := f3 14 (by decide) la
    have a8 := hbag.at_ 14 (by simp [la])
    rw [e8] at a8
    obtain ⟨c0, c1, c2, rfl⟩ := three_cells z8
    have q0 := cell_at 0 a8.2
    have q1 := cell_at 1 a8.2
    have q2 := cell_at 2 a8.2
    simp at q0 q1 q2
    have z0 := frz_of_row 0 a8.2
    have z1 := frz_of_row 1 a8.2
    have z2 := frz_of_row 2 a8.2
    unfold ptr at e1
    unfold namC ptr at e2
    have hI : BagI w2 [12, 13, 14] (C2 q) (fun _ b => ptr b 0) (O2 q) l vs w := ⟨b, ob, hbag, f1, f2, f3⟩
    have hI' : ∀ v, BagI w2 [12, 13, 14] (C2 q) (fun _ b => ptr b 0) (O2 q) (upd l 17 true) (upd vs 17 v) (((w.setCell ⟨b 14, 0, none⟩ (.pointer (some ⟨q, 9, none⟩))).setCell ⟨b 14, 1, none⟩ (.int .u64 1)).setCell ⟨b 14, 2, none⟩ (.int .u64 1048576)) := fun v => hI.turn (k := 14) (by decide) (by decide) la (fun _ => rfl) (fun b' ob' h1 h2 h3 h4 h5 => by
     rw [e1] at h1
     have hbb : b' 14 = b 14 := by simp [ptr] at h1; exact h1.symm
     obtain ⟨cs', rfl, z', _⟩ := h2
     obtain ⟨d0, d1, d2, rfl⟩ := three_cells z'
     rw [hbb] at h3 ⊢
     exact ⟨_, Chg.setCell3 _ _ _ _ _ _ _ _, row_set3 _ _ _ h3, ⟨_, rfl, rfl, fun _ => rfl⟩⟩)
     (fun j b o hj hne _ h => by simp at hj; rcases hj with rfl | rfl | rfl <;> first | exact absurd rfl hne | exact h)
    have hlo := a8.1
    clear a8 f1 f2 f3 hbag hI
    dsimp only
    rw [e1, e2]
    go_simp
    have hK2 := hK.out undef _ (hI' undef).below2 (hI' undef)
    dsimp only at hK2
    rw [e1, e2] at hK2
    exact hK2
  case done =>
   intro l vs w hl hI hS
   obtain ⟨b, ob, hbag, f1, f2, f3⟩ := hI
   rw [f2 12 (by decide) (hl 12 (by decide)), f2 13 (by decide) (hl 13 (by decide)), f2 14 (by decide) (hl 14 (by decide))]
   go_wp2_with fail
   go_meet
   obtain ⟨c12, e12, _, k12⟩ := f3 12 (by decide) (hl 12 (by decide))
   have a12 := hbag.at_ 12 (by simp [hl])
   rw [e12, k12 (hl 15 (by decide))] at a12
   obtain ⟨c13, e13, _, k13⟩ := f3 13 (by decide) (hl 13 (by decide))
   have a13 := hbag.at_ 13 (by simp [hl])
   rw [e13, k13 (hl 16 (by decide))] at a13
   obtain ⟨c14, e14, _, k14⟩ := f3 14 (by decide) (hl 14 (by decide))
   have a14 := hbag.at_ 14 (by simp [hl])
   rw [e14, k14 (hl 17 (by decide))] at a14
   refine ⟨_, _, _, rfl, rfl, rfl, Lib.hid ?_⟩
   exact (((HB1.out.next hbag.below).add (Nat.le_trans HB1.out.1.size a14.1) a14.2).add (Nat.le_trans HB1.out.1.size a13.1) a13.2).add (Nat.le_trans HB1.out.1.size a12.1) a12.2
 obtain ⟨x5, x6, x7, rfl, rfl, rfl, HB2⟩ := hcut
 clear HB1
 go_wp2_with fail
 obtain ⟨w3, HW3, HB3⟩ := boxed4 q HB2.out
 rw [← HW3.out]
 generalize e11 : wc.heap.size + 1 + 1 + 1 = x11 at HB3 ⊢
 generalize e10 : wc.heap.size + 1 + 1 = x10 at HB3 ⊢
 generalize e9 : wc.heap.size + 1 = x9 at HB3 ⊢
 generalize e8 : wc.heap.size = x8 at HB3 ⊢
 clear HB2 HW3 e8 e9 e10 e11
 have G3 : Hid (w3.heap[x3]? = some (.cells (sesC q 1) 229)) := Lib.hid (HB3.out.2 (x3, .cells (sesC q 1) 229) (by simp)).2
 have G4 : Hid (w3.heap[x4]? = some (.cells (sesC q 2) 229)) := Lib.hid (HB3.out.2 (x4, .cells (sesC q 2) 229) (by simp)).2
 have G5 : Hid (w3.heap[x5]? = some (.cells (namC q 6) 175)) := Lib.hid (HB3.out.2 (x5, .cells (namC q 6) 175) (by simp)).2
 have G6 : Hid (w3.heap[x6]? = some (.cells (namC q 8) 175)) := Lib.hid (HB3.out.2 (x6, .cells (namC q 8) 175) (by simp)).2
 have G7 : Hid (w3.heap[x7]? = some (.cells (namC q 9) 175)) := Lib.hid (HB3.out.2 (x7, .cells (namC q 9) 175) (by simp)).2
 have G8 : Hid (w3.heap[x8]? = some (.cells (#[ptr q 4, .int .u64 0, .int .u64 1]) 173)) := Lib.hid (HB3.out.2 (x8, .cells (#[ptr q 4, .int .u64 0, .int .u64 1]) 173) (by simp)).2
 have G9 : Hid (w3.heap[x9]? = some (.cells (#[ptr q 5, .int .u64 1, .int .u64 15]) 173)) := Lib.hid (HB3.out.2 (x9, .cells (#[ptr q 5, .int .u64 1, .int .u64 15]) 173) (by simp)).2
 have G10 : Hid (w3.heap[x10]? = some (.cells (#[ptr q 11, .int .u64 0, .int .u64 1000]) 229)) := Lib.hid (HB3.out.2 (x10, .cells (#[ptr q 11, .int .u64 0, .int .u64 1000]) 229) (by simp)).2
 have G11 : Hid (w3.heap[x11]? = some (.cells (#[ptr q 12, .int .u64 0, .int .u64 255]) 229)) := Lib.hid (HB3.out.2 (x11, .cells (#[ptr q 12, .int .u64 0, .int .u64 255]) 229) (by simp)).2
 go_cut [12] from 49 to 101 (fun s12 wx => ∃ A, s12 = .pointer (some ⟨A, 0, none⟩) ∧ Hid (FieldsAt W wx q A))
 case first =>
  refine wp_region_held_drew (S := fun w => Below w3.heap.size w3 w) (by kernel_rfl) (drewN_below2 (Nat.le_refl _) 1) (fun hHeld => ?_)
  refine tk 1 (hy := fun w hSw => by ((have hq := (hSw.block _ (blk_lt G3.out)).trans G3.out; have z0 := cell_at 0 hq; have z1 := cell_at 1 hq; have z2 := cell_at 2 hq; (try simp [sesC, namC, ptr] at z0 z1 z2); go_simp) <;> with_reducible rfl)) (h := ?_)
  refine tk 2 (h := ?_)
  refine tk 3 (h := ?_)
  refine tk 4 (h := ?_)
  refine tk 5 (h := ?_)
  refine tk 6 (h := ?_)
  refine tk 7 (h := ?_)
  refine tk 8 (hy := fun w hSw => by ((have hq := (hSw.block _ (blk_lt G8.out)).trans G8.out; have z0 := cell_at 0 hq; have z1 := cell_at 1 hq; have z2 := cell_at 2 hq; (try simp [sesC, namC, ptr] at z0 z1 z2); go_simp) <;> with_reducible rfl)) (h := ?_)
  refine tk 9 (h := ?_)
  refine tk 10 (hy := fun w hSw => by ((have hq := (hSw.block _ (blk_lt G5.out)).trans G5.out; have z0 := cell_at 0 hq; have z1 := cell_at 1 hq; have z2 := cell_at 2 hq; (try simp [sesC, namC, ptr] at z0 z1 z2); go_simp) <;> with_reducible rfl)) (h := ?_)
  refine tk 11 (h := ?_)
  refine tk 12 (h := ?_)
  refine tk 13 (h := ?_)
  refine tk 14 (h := ?_)
  refine tk 17 (hy := fun w hSw => by ((have hq := (hSw.block _ (blk_lt G6.out)).trans G6.out; have z0 := cell_at 0 hq; have z1 := cell_at 1 hq; have z2 := cell_at 2 hq; (try simp [sesC, namC, ptr] at z0 z1 z2); go_simp) <;> with_reducible rfl)) (h := ?_)
  refine tk 18 (h := ?_)
  refine tk 19 (hy := fun w hSw => by ((have hq := (hSw.block _ (blk_lt G7.out)).trans G7.out; have z0 := cell_at 0 hq; have z1 := cell_at 1 hq; have z2 := cell_at 2 hq; (try simp [sesC, namC, ptr] at z0 z1 z2); go_simp) <;> with_reducible rfl)) (h := ?_)
  refine tk 20 (h := ?_)
  refine tk 21 (h := ?_)
  refine tk 22 (h := ?_)
  refine tk 23 (h := ?_)
  refine tk 28 (hy := fun w hSw => by ((have hq := (hSw.block _ (blk_lt G3.out)).trans G3.out; have z0 := cell_at 0 hq; have z1 := cell_at 1 hq; have z2 := cell_at 2 hq; (try simp [sesC, namC, ptr] at z0 z1 z2); go_simp) <;> with_reducible rfl)) (h := ?_)
  refine tk 29 (h := ?_)
  refine tk 30 (hy := fun w hSw => by ((have hq := (hSw.block _ (blk_lt G4.out)).trans G4.out; have z0 := cell_at 0 hq; have z1 := cell_at 1 hq; have z2 := cell_at 2 hq; (try simp [sesC, namC, ptr] at z0 z1 z2); go_simp) <;> with_reducible rfl)) (h := ?_)
  refine tk 31 (h := ?_)
  refine tk 32 (hy := fun w hSw => by ((have hq := (hSw.block _ (blk_lt G5.out)).trans G5.out; have z0 := cell_at 0 hq; have z1 := cell_at 1 hq; have z2 := cell_at 2 hq; (try simp [sesC, namC, ptr] at z0 z1 z2); go_simp) <;> with_reducible rfl)) (h := ?_)
  refine tk 33 (h := ?_)
  refine tk 34 (hy := fun w hSw => by ((have hq := (hSw.block _ (blk_lt G6.out)).trans G6.out; have z0 := cell_at 0 hq; have z1 := cell_at 1 hq; have z2 := cell_at 2 hq; (try simp [sesC, namC, ptr] at z0 z1 z2); go_simp) <;> with_reducible rfl)) (h := ?_)
  refine tk 35 (h := ?_)
  refine tk 36 (hy := fun w hSw => by ((have hq := (hSw.block _ (blk_lt G7.out)).trans G7.out; have z0 := cell_at 0 hq; have z1 := cell_at 1 hq; have z2 := cell_at 2 hq; (try simp [sesC, namC, ptr] at z0 z1 z2); go_simp) <;> with_reducible rfl)) (h := ?_)
  refine tk 37 (h := ?_)
  refine tk 40 (hy := fun w hSw => by ((have hq := (hSw.block _ (blk_lt G4.out)).trans G4.out; have z0 := cell_at 0 hq; have z1 := cell_at 1 hq; have z2 := cell_at 2 hq; (try simp [sesC, namC, ptr] at z0 z1 z2); go_simp) <;> with_reducible rfl)) (h := ?_)
  refine tk 41 (h := ?_)
  refine tk 42 (hy := fun w hSw => by ((have hq := (hSw.block _ (blk_lt G9.out)).trans G9.out; have z0 := cell_at 0 hq; have z1 := cell_at 1 hq; have z2 := cell_at 2 hq; (try simp [sesC, namC, ptr] at z0 z1 z2); go_simp) <;> with_reducible rfl)) (h := ?_)
  refine tk 43 (h := ?_)
  refine tk 46 (hy := fun w hSw => by ((have hq := (hSw.block _ (blk_lt G4.out)).trans G4.out; have z0 := cell_at 0 hq; have z1 := cell_at 1 hq; have z2 := cell_at 2 hq; (try simp [sesC, namC, ptr] at z0 z1 z2); go_simp) <;> with_reducible rfl)) (h := ?_)
  refine tk 47 (h := ?_)
  refine tk 48 (hy := fun w hSw => by ((have hq := (hSw.block _ (blk_lt G10.out)).trans G10.out; have z0 := cell_at 0 hq; have z1 := cell_at 1 hq; have z2 := cell_at 2 hq; (try simp [sesC, namC, ptr] at z0 z1 z2); go_simp) <;> with_reducible rfl)) (h := ?_)
  refine tk 49 (h := ?_)
  refine tk 50 (hy := fun w hSw => by ((have hq := (hSw.block _ (blk_lt G11.out)).trans G11.out; have z0 := cell_at 0 hq; have z1 := cell_at 1 hq; have z2 := cell_at 2 hq; (try simp [sesC, namC, ptr] at z0 z1 z2); go_simp) <;> with_reducible rfl)) (h := ?_)
  refine tk 51 (h := ?_)
  refine tk 52 (hy := fun w hSw => by ((have hq := (hSw.block _ (blk_lt G7.out)).trans G7.out; have z0 := cell_at 0 hq; have z1 := cell_at 1 hq; have z2 := cell_at 2 hq; (try simp [sesC, namC, ptr] at z0 z1 z2); go_simp) <;> with_reducible rfl)) (h := ?_)
  refine tk 53 (h := ?_)
  refine wpAnyH_from (F := ?F7) [0, 15, 16, 24, 25, 26, 27, 38, 39, 44, 45, 54, 55, 56, 57, 58] (BagI w3 [0, 26, 38, 44, 54, 57] (C7 q) mk7 (O7 q)) #[false, true, true, true, true, true, true, true, true, true, true, true, true, true, true, false, false, true, true, true, true, true, true, true, false, false, false, false, true, true, true, true, true, true, true, true, true, true, false, false, true, true, true, true, false, false, true, true, true, true, true, true, true, true, false, false, false, false, false] (by kernel_rfl) (by kernel_rfl) (by kernel_rfl) (by kernel_rfl) (by kernel_rfl) (by kernel_rfl) (by kernel_rfl) ?hF ?hput ?h0 hHeld ?hI ?step ?done
  case hF => intro vs; simp only [putAll, List.getElem?_toArray, List.getElem?_cons_succ, List.getElem?_cons_zero, Option.bind_some, Act.put, List.setIfInBounds_toArray, List.set_cons_zero, List.set_cons_succ]; rfl
  case hput =>
   intro i hi vs v
   simp only [List.mem_cons, List.not_mem_nil, or_false] at hi
   rcases hi with rfl | rfl | rfl | rfl | rfl | rfl | rfl | rfl | rfl | rfl | rfl | rfl | rfl | rfl | rfl | rfl <;> kernel_rfl
  case h0 => kernel_rfl
  case hI =>
   refine BagI.start hHeld (fun i hi => ?_) (fun i b v hi => ?_)
   ·simp at hi; rcases hi with rfl | rfl | rfl | rfl | rfl | rfl <;> decide
   ·unfold C7 at hi; split at hi <;> first | decide | cases hi
  case step =>
   intro l vs w i o hi ho hl0 ha hcl hI hS K' hK
   simp only [List.mem_cons, List.not_mem_nil, or_false] at hi
   rcases hi with rfl | rfl | rfl | rfl | rfl | rfl | rfl | rfl | rfl | rfl | rfl | rfl | rfl | rfl | rfl | rfl
   all_goals simp only [List.getElem?_toArray, List.getElem?_cons_succ, List.getElem?_cons_zero, Option.some.injEq] at ho
   all_goals subst ho
   ·as_aux_lemma =>
     have n27 : l 27 = false := by
      cases e : l 27 with
      | false => rfl
      | true => rw [hcl 27 0 (by kernel_rfl) e] at hl0; cases hl0
     have n39 : l 39 = false := by
      cases e : l 39 with
      | false => rfl
      | true => rw [hcl 39 0 (by kernel_rfl) e] at hl0; cases hl0
     have n45 : l 45 = false := by
      cases e : l 45 with
      | false => rfl
      | true => rw [hcl 45 0 (by kernel_rfl) e] at hl0; cases hl0
     have n55 : l 55 = false := by
      cases e : l 55 with
      | false => rfl
      | true => rw [hcl 55 0 (by kernel_rfl) e] at hl0; cases hl0
     have n58 : l 58 = false := by
      cases e : l 58 with
      | false => rfl
      | true => rw [hcl 58 0 (by kernel_rfl) e] at hl0; cases hl0
     have n56 : l 56 = false := by
      cases e : l 56 with
      | false => rfl
      | true => rw [hcl 56 0 (by kernel_rfl) e] at hl0; cases hl0
     go_simp
     exact hK.out _ _ (hS.trans ((below_alloc _ _).mono hS.size)) (hI.alloc (by decide) hl0 _ (fun _ => rfl) (fun j b n hj => by
       unfold C7; split <;> first | rfl | (rw [n56] at hj; cases hj)) rfl
      (fun j b o hj hne _ h => by
        simp at hj; rcases hj with rfl | rfl | rfl | rfl | rfl | rfl <;> first | exact absurd rfl hne | exact h | (
         obtain ⟨c0, h1, h2⟩ := h
         exact ⟨c0, h1, fun h3 => by have h3 : l 58 = true := h3; rw [n58] at h3; cases h3⟩))
      (fun b => ⟨#[], 0, [], rfl, Ents.nil, fun k => by
        have m1 : upd l 0 true 27 = l 27 := rfl
        have m2 : upd l 0 true 39 = l 39 := rfl
        have m3 : upd l 0 true 45 = l 45 := rfl
        have m4 : upd l 0 true 55 = l 55 := rfl
        rw [m1, m2, m3, m4, n27, n39, n45, n55]; simp [lookT, look7]⟩))
   ·as_aux_lemma =>
     clear G3 G4 G5 G6 G7 G8 G9 G10 G11
     go_simp
     go_at_call 153
     refine (nameIn_any _ _).mono ?_
     rintro e w1 ⟨rfl, hb1⟩
     exact hK.out _ _ (hS.trans (hb1.mono hS.size)) (hI.const (by decide) hb1 (fun _ _ => rfl) (fun j b o hj _ h => by simp at hj; rcases hj with rfl | rfl | rfl | rfl | rfl | rfl <;> exact h))
   ·as_aux_lemma =>
     have lc : l 15 = true := ha 15 (by kernel_rfl)
     have e2 : vs 15 = .agg (namC q 7) := by
      obtain ⟨b, ob, hbag, f1, f2, f3⟩ := hI
      exact f1 15 _ rfl lc
     unfold namC ptr at e2
     have hI' := fun v (hv : v = Value.iface 175 (.agg (namC q 7))) => hI.const (i := 16) (w' := w) (v := v) (by decide) (Below.refl _ _) (fun _ _ => by rw [hv]; rfl) (fun j b o hj _ h => by simp at hj; rcases hj with rfl | rfl | rfl | rfl | rfl | rfl <;> exact h)
     go_simp
     refine castK (hK.out _ _ hS (hI' _ rfl)) ?_
     unfold namC ptr
     simp only [Act.put, e2, List.setIfInBounds_toArray, List.set_cons_zero, List.set_cons_succ]
   ·as_aux_lemma =>
     clear G3 G4 G5 G6 G7 G8 G9 G10 G11
     go_simp
     go_at_call 153
     refine (nameIn_any _ _).mono ?_
     rintro e w1 ⟨rfl, hb1⟩
     exact hK.out _ _ (hS.trans (hb1.mono hS.size)) (hI.const (by decide) hb1 (fun _ _ => rfl) (fun j b o hj _ h => by simp at hj; rcases hj with rfl | rfl | rfl | rfl | rfl | rfl <;> exact h))
   ·as_aux_lemma =>
     have lc : l 24 = true := ha 24 (by kernel_rfl)
     have e2 : vs 24 = .agg (namC q 10) := by
      obtain ⟨b, ob, hbag, f1, f2, f3⟩ := hI
      exact f1 24 _ rfl lc
     unfold namC ptr at e2
     have hI' := fun v (hv : v = Value.iface 175 (.agg (namC q 10))) => hI.const (i := 25) (w' := w) (v := v) (by decide) (Below.refl _ _) (fun _ _ => by rw [hv]; rfl) (fun j b o hj _ h => by simp at hj; rcases hj with rfl | rfl | rfl | rfl | rfl | rfl <;> exact h)
     go_simp
     refine castK (hK.out _ _ hS (hI' _ rfl)) ?_
     unfold namC ptr
     simp only [Act.put, e2, List.setIfInBounds_toArray, List.set_cons_zero, List.set_cons_succ]
   ·as_aux_lemma =>
     have n27 : l 27 = false := by
      cases e : l 27 with
      | false => rfl
      | true => rw [hcl 27 26 (by kernel_rfl) e] at hl0; cases hl0
     have lc16 : l 16 = true := ha 16 (by kernel_rfl)
     have lc25 : l 25 = true := ha 25 (by kernel_rfl)
     obtain ⟨b, ob, hbag, f1, f2, f3⟩ := hI
     have e16 : vs 16 = .iface 175 (.agg (namC q 7)) := f1 16 _ rfl lc16
     unfold namC ptr at e16
     have e25 : vs 25 = .iface 175 (.agg (namC q 10)) := f1 25 _ rfl lc25
     unfold namC ptr at e25
     have hI : BagI w3 [0, 26, 38, 44, 54, 57] (C7 q) mk7 (O7 q) l vs w := ⟨b, ob, hbag, f1, f2, f3⟩
     clear f1 f2 f3 hbag
     have hI' := hI.alloc (i := 26) (by decide) hl0 (.cells (fdsV q 1) 170 (0, 0)) (fun _ => rfl) (fun j b n _ => by unfold C7; split <;> rfl) rfl
      (fun j b o hj hne _ h => by
        simp at hj; rcases hj with rfl | rfl | rfl | rfl | rfl | rfl <;> first | exact absurd rfl hne | exact h | (
         obtain ⟨es, c, T, h1, h2, h3⟩ := h
         refine ⟨es, c, T, h1, h2, fun k => ?_⟩
         rw [h3 k]
         have m : upd l 26 true 27 = l 27 := rfl
         simp only [m, n27]
         rfl))
      (fun b => rfl)
     have HK2 := Lib.hid (hK.out _ _ (hS.trans ((below_alloc _ _).mono hS.size)) hI')
     clear hI hI'
     refine iteT (by rfl) (wp_value (Eq.trans (b := (row8 q (vs 16) (vs 25)).run Tryz.prog w) (by kernel_rfl) (by rw [e16, e25]; exact row8_run q w)) HK2.out)
   ·as_aux_lemma =>
     have l0 : l 0 = true := ha 0 (by kernel_rfl)
     have lb : l 26 = true := ha 26 (by kernel_rfl)
     have hw : ∃ w', (∀ v, BagI w3 [0, 26, 38, 44, 54, 57] (C7 q) mk7 (O7 q) (upd l 27 true) (upd vs 27 v) w') ∧ Below w3.heap.size w3 w' ∧ ∃ m, vs 0 = .map (some m) ∧ (Instr.mapUpdate 235 (.map (some m)) (.int .i64 1) (vs 26)).run Tryz.prog w = .ok () w' := by
      obtain ⟨b, ob, hbag, f1, f2, f3⟩ := hI
      have e0 : vs 0 = .map (some (b 0)) := f2 0 (by decide) l0
      obtain ⟨es, c, T, h1, h2, h3⟩ := f3 0 (by decide) l0
      have a0 := hbag.at_ 0 (by simp [l0])
      rw [h1] at a0
      have hk : lookT T 1 = none := by rw [h3]; simp [hl0, look7]
      have hrun := run_put (P := Tryz.prog) Tryz.underlying235 Tryz.underlying3 a0.2 h2 1 (vs 26) hk
      have hI : BagI w3 [0, 26, 38, 44, 54, 57] (C7 q) mk7 (O7 q) l vs w := ⟨b, ob, hbag, f1, f2, f3⟩
      have hI' := fun v => hI.turn (i := 27) (k := 0) (v := v) (by decide) (by decide) l0 (fun _ => rfl) (w' := { w with heap := w.heap.setIfInBounds (b 0) (.map (es.push { key := .int .i64 1, val := vs 26, born := c }) (c + 1)) }) (fun b' ob' q1 q2 q3 q4 q5 => by
       have hbb : b' 0 = b 0 := by
        rw [e0] at q1
        have q1 : Value.map (some (b 0)) = .map (some (b' 0)) := q1
        injection q1 with q1; injection q1 with q1; exact q1.symm
       rw [hbb] at q3 ⊢
       refine ⟨_, Chg.putMap _ _ _, putMap_at a0.2, ⟨_, _, _, rfl, h2.push 1 (vs 26) c, fun k => ?_⟩⟩
       obtain ⟨es', c', T', g1, g2, g3⟩ := q2
       have hob : ob' = .map es c := Option.some.inj (q3.symm.trans a0.2)
       rw [g1] at hob
       injection hob with x1 x2
       subst x1 x2
       have hT : ∀ k, lookT T k = lookT T' k := fun k => ents_look h2 g2 k
       rw [lookT_app, hT, g3]
       have m1 : upd l 27 true 27 = true := rfl
       have m2 : vs 26 = mk7 26 (b' 26) := q5 26 (by decide) lb
       rw [m2]
       have M1 : upd l 27 true 27 = true := rfl
       have M2 : upd l 27 true 39 = l 39 := rfl
       have M3 : upd l 27 true 45 = l 45 := rfl
       have M4 : upd l 27 true 55 = l 55 := rfl
       rw [M1, M2, M3, M4]
       exact ins1 _ _ _ _ _ _ _ hl0 k)
       (fun j b o hj hne _ h => by simp at hj; rcases hj with rfl | rfl | rfl | rfl | rfl | rfl <;> first | exact absurd rfl hne | exact h)
      exact ⟨_, hI', (hI' undef).below2, _, e0, hrun⟩
     obtain ⟨w', hI', hS', m, e0, hrun⟩ := hw
     have HK2 := Lib.hid (hK.out undef _ hS' (hI' undef))
     clear hI' hI
     go_simp
     refine castK HK2.out ?_
     simp only [Act.put, e0]
   ·as_aux_lemma =>
     have n39 : l 39 = false := by
      cases e : l 39 with
      | false => rfl
      | true => rw [hcl 39 38 (by kernel_rfl) e] at hl0; cases hl0
     have hI' := hI.alloc (i := 38) (by decide) hl0 (.cells (fdsV q 2) 170 (0, 0)) (fun _ => rfl) (fun j b n _ => by unfold C7; split <;> rfl) rfl
      (fun j b o hj hne _ h => by
        simp at hj; rcases hj with rfl | rfl | rfl | rfl | rfl | rfl <;> first | exact absurd rfl hne | exact h | (
         obtain ⟨es, c, T, h1, h2, h3⟩ := h
         refine ⟨es, c, T, h1, h2, fun k => ?_⟩
         rw [h3 k]
         have m : upd l 38 true 39 = l 39 := rfl
         simp only [m, n39]
         rfl))
      (fun b => rfl)
     have HK2 := Lib.hid (hK.out _ _ (hS.trans ((below_alloc _ _).mono hS.size)) hI')
     clear hI hI'
     refine iteT (by rfl) (wp_value (Eq.trans (b := (row5 q).run Tryz.prog w) (by kernel_rfl) (row5_run q w)) HK2.out)
   ·as_aux_lemma =>
     have l0 : l 0 = true := ha 0 (by kernel_rfl)
     have lb : l 38 = true := ha 38 (by kernel_rfl)
     have hw : ∃ w', (∀ v, BagI w3 [0, 26, 38, 44, 54, 57] (C7 q) mk7 (O7 q) (upd l 39 true) (upd vs 39 v) w') ∧ Below w3.heap.size w3 w' ∧ ∃ m, vs 0 = .map (some m) ∧ (Instr.mapUpdate 235 (.map (some m)) (.int .i64 2) (vs 38)).run Tryz.prog w = .ok () w' := by
      obtain ⟨b, ob, hbag, f1, f2, f3⟩ := hI
      have e0 : vs 0 = .map (some (b 0)) := f2 0 (by decide) l0
      obtain ⟨es, c, T, h1, h2, h3⟩ := f3 0 (by decide) l0
      have a0 := hbag.at_ 0 (by simp [l0])
      rw [h1] at a0
      have hk : lookT T 2 = none := by rw [h3]; simp [hl0, look7]
      have hrun := run_put (P := Tryz.prog) Tryz.underlying235 Tryz.underlying3 a0.2 h2 2 (vs 38) hk
      have hI : BagI w3 [0, 26, 38, 44, 54, 57] (C7 q) mk7 (O7 q) l vs w := ⟨b, ob, hbag, f1, f2, f3⟩
      have hI' := fun v => hI.turn (i := 39) (k := 0) (v := v) (by decide) (by decide) l0 (fun _ => rfl) (w' := { w with heap := w.heap.setIfInBounds (b 0) (.map (es.push { key := .int .i64 2, val := vs 38, born := c }) (c + 1)) }) (fun b' ob' q1 q2 q3 q4 q5 => by
       have hbb : b' 0 = b 0 := by
        rw [e0] at q1
        have q1 : Value.map (some (b 0)) = .map (some (b' 0)) := q1
        injection q1 with q1; injection q1 with q1; exact q1.symm
       rw [hbb] at q3 ⊢
       refine ⟨_, Chg.putMap _ _ _, putMap_at a0.2, ⟨_, _, _, rfl, h2.push 2 (vs 38) c, fun k => ?_⟩⟩
       obtain ⟨es', c', T', g1, g2, g3⟩ := q2
       have hob : ob' = .map es c := Option.some.inj (q3.symm.trans a0.2)
       rw [g1] at hob
       injection hob with x1 x2
       subst x1 x2
       have hT : ∀ k, lookT T k = lookT T' k := fun k => ents_look h2 g2 k
       rw [lookT_app, hT, g3]
       have m1 : upd l 39 true 39 = true := rfl
       have m2 : vs 38 = mk7 38 (b' 38) := q5 38 (by decide) lb
       rw [m2]
       have M1 : upd l 39 true 27 = l 27 := rfl
       have M2 : upd l 39 true 39 = true := rfl
       have M3 : upd l 39 true 45 = l 45 := rfl
       have M4 : upd l 39 true 55 = l 55 := rfl
       rw [M1, M2, M3, M4]
       exact ins2 _ _ _ _ _ _ _ hl0 k)
       (fun j b o hj hne _ h => by simp at hj; rcases hj with rfl | rfl | rfl | rfl | rfl | rfl <;> first | exact absurd rfl hne | exact h)
      exact ⟨_, hI', (hI' undef).below2, _, e0, hrun⟩
     obtain ⟨w', hI', hS', m, e0, hrun⟩ := hw
     have HK2 := Lib.hid (hK.out undef _ hS' (hI' undef))
     clear hI' hI
     go_simp
     refine castK HK2.out ?_
     simp only [Act.put, e0]
   ·as_aux_lemma =>
     have n45 : l 45 = false := by
      cases e : l 45 with
      | false => rfl
      | true => rw [hcl 45 44 (by kernel_rfl) e] at hl0; cases hl0
     have hI' := hI.alloc (i := 44) (by decide) hl0 (.cells (fdsV q 3) 170 (0, 0)) (fun _ => rfl) (fun j b n _ => by unfold C7; split <;> rfl) rfl
      (fun j b o hj hne _ h => by
        simp at hj; rcases hj with rfl | rfl | rfl | rfl | rfl | rfl <;> first | exact absurd rfl hne | exact h | (
         obtain ⟨es, c, T, h1, h2, h3⟩ := h
         refine ⟨es, c, T, h1, h2, fun k => ?_⟩
         rw [h3 k]
         have m : upd l 44 true 45 = l 45 := rfl
         simp only [m, n45]
         rfl))
      (fun b => rfl)
     have HK2 := Lib.hid (hK.out _ _ (hS.trans ((below_alloc _ _).mono hS.size)) hI')
     clear hI hI'
     refine iteT (by rfl) (wp_value (Eq.trans (b := (row2 q).run Tryz.prog w) (by kernel_rfl) (row2_run q w)) HK2.out)
   ·as_aux_lemma =>
     have l0 : l 0 = true := ha 0 (by kernel_rfl)
     have lb : l 44 = true := ha 44 (by kernel_rfl)
     have hw : ∃ w', (∀ v, BagI w3 [0, 26, 38, 44, 54, 57] (C7 q) mk7 (O7 q) (upd l 45 true) (upd vs 45 v) w') ∧ Below w3.heap.size w3 w' ∧ ∃ m, vs 0 = .map (some m) ∧ (Instr.mapUpdate 235 (.map (some m)) (.int .i64 3) (vs 44)).run Tryz.prog w = .ok () w' := by
      obtain ⟨b, ob, hbag, f1, f2, f3⟩ := hI
      have e0 : vs 0 = .map (some (b 0)) := f2 0 (by decide) l0
      obtain ⟨es, c, T, h1, h2, h3⟩ := f3 0 (by decide) l0
      have a0 := hbag.at_ 0 (by simp [l0])
      rw [h1] at a0
      have hk : lookT T 3 = none := by rw [h3]; simp [hl0, look7]
      have hrun := run_put (P := Tryz.prog) Tryz.underlying235 Tryz.underlying3 a0.2 h2 3 (vs 44) hk
      have hI : BagI w3 [0, 26, 38, 44, 54, 57] (C7 q) mk7 (O7 q) l vs w := ⟨b, ob, hbag, f1, f2, f3⟩
      have hI' := fun v => hI.turn (i := 45) (k := 0) (v := v) (by decide) (by decide) l0 (fun _ => rfl) (w' := { w with heap := w.heap.setIfInBounds (b 0) (.map (es.push { key := .int .i64 3, val := vs 44, born := c }) (c + 1)) }) (fun b' ob' q1 q2 q3 q4 q5 => by
       have hbb : b' 0 = b 0 := by
        rw [e0] at q1
        have q1 : Value.map (some (b 0)) = .map (some (b' 0)) := q1
        injection q1 with q1; injection q1 with q1; exact q1.symm
       rw [hbb] at q3 ⊢
       refine ⟨_, Chg.putMap _ _ _, putMap_at a0.2, ⟨_, _, _, rfl, h2.push 3 (vs 44) c, fun k => ?_⟩⟩
       obtain ⟨es', c', T', g1, g2, g3⟩ := q2
       have hob : ob' = .map es c := Option.some.inj (q3.symm.trans a0.2)
       rw [g1] at hob
       injection hob with x1 x2
       subst x1 x2
       have hT : ∀ k, lookT T k = lookT T' k := fun k => ents_look h2 g2 k
       rw [lookT_app, hT, g3]
       have m1 : upd l 45 true 45 = true := rfl
       have m2 : vs 44 = mk7 44 (b' 44) := q5 44 (by decide) lb
       rw [m2]
       have M1 : upd l 45 true 27 = l 27 := rfl
       have M2 : upd l 45 true 39 = l 39 := rfl
       have M3 : upd l 45 true 45 = true := rfl
       have M4 : upd l 45 true 55 = l 55 := rfl
       rw [M1, M2, M3, M4]
       exact ins3 _ _ _ _ _ _ _ hl0 k)
       (fun j b o hj hne _ h => by simp at hj; rcases hj with rfl | rfl | rfl | rfl | rfl | rfl <;> first | exact absurd rfl hne | exact h)
      exact ⟨_, hI', (hI' undef).below2, _, e0, hrun⟩
     obtain ⟨w', hI', hS', m, e0, hrun⟩ := hw
     have HK2 := Lib.hid (hK.out undef _ hS' (hI' undef))
     clear hI' hI
     go_simp
     refine castK HK2.out ?_
     simp only [Act.put, e0]
   ·as_aux_lemma =>
     have n55 : l 55 = false := by
      cases e : l 55 with
      | false => rfl
      | true => rw [hcl 55 54 (by kernel_rfl) e] at hl0; cases hl0
     have hI' := hI.alloc (i := 54) (by decide) hl0 (.cells (fdsV q 4) 170 (0, 0)) (fun _ => rfl) (fun j b n _ => by unfold C7; split <;> rfl) rfl
      (fun j b o hj hne _ h => by
        simp at hj; rcases hj with rfl | rfl | rfl | rfl | rfl | rfl <;> first | exact absurd rfl hne | exact h | (
         obtain ⟨es, c, T, h1, h2, h3⟩ := h
         refine ⟨es, c, T, h1, h2, fun k => ?_⟩
         rw [h3 k]
         have m : upd l 54 true 55 = l 55 := rfl
         simp only [m, n55]
         rfl))
      (fun b => rfl)
     have HK2 := Lib.hid (hK.out _ _ (hS.trans ((below_alloc _ _).mono hS.size)) hI')
     clear hI hI'
     refine iteT (by rfl) (wp_value (Eq.trans (b := (row4 q).run Tryz.prog w) (by kernel_rfl) (row4_run q w)) HK2.out)
   ·as_aux_lemma =>
     have l0 : l 0 = true := ha 0 (by kernel_rfl)
     have lb : l 54 = true := ha 54 (by kernel_rfl)
     have hw : ∃ w', (∀ v, BagI w3 [0, 26, 38, 44, 54, 57] (C7 q) mk7 (O7 q) (upd l 55 true) (upd vs 55 v) w') ∧ Below w3.heap.size w3 w' ∧ ∃ m, vs 0 = .map (some m) ∧ (Instr.mapUpdate 235 (.map (some m)) (.int .i64 4) (vs 54)).run Tryz.prog w = .ok () w' := by
      obtain ⟨b, ob, hbag, f1, f2, f3⟩ := hI
      have e0 : vs 0 = .map (some (b 0)) := f2 0 (by decide) l0
      obtain ⟨es, c, T, h1, h2, h3⟩ := f3 0 (by decide) l0
      have a0 := hbag.at_ 0 (by simp [l0])
      rw [h1] at a0
      have hk : lookT T 4 = none := by rw [h3]; simp [hl0, look7]
      have hrun := run_put (P := Tryz.prog) Tryz.underlying235 Tryz.underlying3 a0.2 h2 4 (vs 54) hk
      have hI : BagI w3 [0, 26, 38, 44, 54, 57] (C7 q) mk7 (O7 q) l vs w := ⟨b, ob, hbag, f1, f2, f3⟩
      have hI' := fun v => hI.turn (i := 55) (k := 0) (v := v) (by decide) (by decide) l0 (fun _ => rfl) (w' := { w with heap := w.heap.setIfInBounds (b 0) (.map (es.push { key := .int .i64 4, val := vs 54, born := c }) (c + 1)) }) (fun b' ob' q1 q2 q3 q4 q5 => by
       have hbb : b' 0 = b 0 := by
        rw [e0] at q1
        have q1 : Value.map (some (b 0)) = .map (some (b' 0)) := q1
        injection q1 with q1; injection q1 with q1; exact q1.symm
       rw [hbb] at q3 ⊢
       refine ⟨_, Chg.putMap _ _ _, putMap_at a0.2, ⟨_, _, _, rfl, h2.push 4 (vs 54) c, fun k => ?_⟩⟩
       obtain ⟨es', c', T', g1, g2, g3⟩ := q2
       have hob : ob' = .map es c := Option.some.inj (q3.symm.trans a0.2)
       rw [g1] at hob
       injection hob with x1 x2
       subst x1 x2
       have hT : ∀ k, lookT T k = lookT T' k := fun k => ents_look h2 g2 k
       rw [lookT_app, hT, g3]
       have m1 : upd l 55 true 55 = true := rfl
       have m2 : vs 54 = mk7 54 (b' 54) := q5 54 (by decide) lb
       rw [m2]
       have M1 : upd l 55 true 27 = l 27 := rfl
       have M2 : upd l 55 true 39 = l 39 := rfl
       have M3 : upd l 55 true 45 = l 45 := rfl
       have M4 : upd l 55 true 55 = true := rfl
       rw [M1, M2, M3, M4]
       exact ins4 _ _ _ _ _ _ _ hl0 k)
       (fun j b o hj hne _ h => by simp at hj; rcases hj with rfl | rfl | rfl | rfl | rfl | rfl <;> first | exact absurd rfl hne | exact h)
      exact ⟨_, hI', (hI' undef).below2, _, e0, hrun⟩
     obtain ⟨w', hI', hS', m, e0, hrun⟩ := hw
     have HK2 := Lib.hid (hK.out undef _ hS' (hI' undef))
     clear hI' hI
     go_simp
     refine castK HK2.out ?_
     simp only [Act.put, e0]
   ·as_aux_lemma =>
     have l0 : l 0 = true := ha 0 (by kernel_rfl)
     go_simp
     exact hK.out _ _ hS (hI.const (by decide) (Below.refl _ _) (fun b h => by rw [h 0 (by decide) l0]; rfl) (fun j b o hj _ h => by simp at hj; rcases hj with rfl | rfl | rfl | rfl | rfl | rfl <;> exact h))
   ·as_aux_lemma =>
     have n58 : l 58 = false := by
      cases e : l 58 with
      | false => rfl
      | true => rw [hcl 58 57 (by kernel_rfl) e] at hl0; cases hl0
     go_simp
     exact hK.out _ _ (hS.trans ((below_alloc _ _).mono hS.size)) (hI.alloc (by decide) hl0 _ (fun _ => rfl) (fun j b n _ => by unfold C7; split <;> rfl) rfl
      (fun j b o hj hne _ h => by
        simp at hj; rcases hj with rfl | rfl | rfl | rfl | rfl | rfl <;> first | exact absurd rfl hne | exact h)
      (fun b => ⟨_, rfl, fun h3 => by have h3 : l 58 = true := h3; rw [n58] at h3; cases h3⟩))
   ·as_aux_lemma =>
     have la : l 57 = true := ha 57 (by kernel_rfl)
     have lc : l 56 = true := ha 56 (by kernel_rfl)
     obtain ⟨b, ob, hbag, f1, f2, f3⟩ := hI
     have e1 : vs 57 = .pointer (some ⟨b 57, 0, none⟩) := f2 57 (by decide) la
     have e2 : vs 56 = .map (some (b 0)) := f1 56 _ rfl lc
     have l0 : l 0 = true := hcl 56 0 (by kernel_rfl) lc
     have e0 : vs 0 = .map (some (b 0)) := f2 0 (by decide) l0
     obtain ⟨c0, e8, _⟩ := f3 57 (by decide) la
     have a8 := hbag.at_ 57 (by simp [la])
     rw [e8] at a8
     have q0 := cell_at 0 a8.2
     simp at q0
     have z0 := frz_of_row 0 a8.2
     have hI : BagI w3 [0, 26, 38, 44, 54, 57] (C7 q) mk7 (O7 q) l vs w := ⟨b, ob, hbag, f1, f2, f3⟩
     have hI' : ∀ v, BagI w3 [0, 26, 38, 44, 54, 57] (C7 q) mk7 (O7 q) (upd l 58 true) (upd vs 58 v) (w.setCell ⟨b 57, 0, none⟩ (.map (some (b 0)))) := fun v => hI.turn (k := 57) (by decide) (by decide) la (fun _ => rfl) (fun b' ob' h1 h2 h3 h4 h5 => by
      have hbb : b' 57 = b 57 := by
       rw [e1] at h1
       have h1 : Value.pointer (some ⟨b 57, 0, none⟩) = .pointer (some ⟨b' 57, 0, none⟩) := h1
       injection h1 with h1; injection h1 with h1; injection h1 with h1; exact h1.symm
      have hb0 : b' 0 = b 0 := by
       have h1 := h5 0 (by decide) l0
       rw [e0] at h1
       have h1 : Value.map (some (b 0)) = .map (some (b' 0)) := h1
       injection h1 with h1; injection h1 with h1; exact h1.symm
      rw [hbb] at h3 ⊢
      refine ⟨_, Chg.setCell _ _ _ _, row_set 0 _ a8.2, ⟨_, rfl, fun _ => by rw [hb0]⟩⟩)
      (fun j b o hj hne _ h => by simp at hj; rcases hj with rfl | rfl | rfl | rfl | rfl | rfl <;> first | exact absurd rfl hne | exact h)
     have hK2 := hK.out undef _ (hI' undef).below2 (hI' undef)
     have HK2 := Lib.hid hK2
     clear a8 f1 f2 f3 hbag hI hI' e0 hK2
     go_simp
     refine castK HK2.out ?_
     simp only [Act.put, e1, e2]
  case done =>
   intro l vs w hl hI hS
   obtain ⟨b, ob, hbag, f1, f2, f3⟩ := hI
   have e57 : vs 57 = .pointer (some ⟨b 57, 0, none⟩) := f2 57 (by decide) (hl 57 (by decide))
   rw [e57]
   go_wp2_with fail
   go_meet
   refine ⟨_, rfl, Lib.hid ?_⟩
   have hlo := HB3.out.1.size
   have a (i : Nat) (hi : [0, 26, 38, 44, 54, 57].contains i = true) (h2 : l i = true) := hbag.at_ i (by rw [hi, h2]; rfl)
   obtain ⟨es, c, T, t1, t2, t3⟩ := f3 0 (by decide) (hl 0 (by decide))
   obtain ⟨c0, t4, t5⟩ := f3 57 (by decide) (hl 57 (by decide))
   have t6 := t5 (hl 58 (by decide))
   subst t6
   refine ⟨HB3.out.1.trans (hbag.below.mono hlo), Nat.le_trans hlo (a 57 (by decide) (hl 57 (by decide))).1, b 0, es, c, T, b 26, b 38, b 44, b 54, ?_, ?_, t2, ?_, ?_, ?_, ?_,
    Nat.le_trans hlo (a 26 (by decide) (hl 26 (by decide))).1, Nat.le_trans hlo (a 38 (by decide) (hl 38 (by decide))).1, Nat.le_trans hlo (a 44 (by decide) (hl 44 (by decide))).1, Nat.le_trans hlo (a 54 (by decide) (hl 54 (by decide))).1, ?_, ?_, ?_, ?_, ?_⟩
   ·rw [← t4]; exact (a 57 (by decide) (hl 57 (by decide))).2
   ·rw [← t1]; exact (a 0 (by decide) (hl 0 (by decide))).2
   ·exact (a 26 (by decide) (hl 26 (by decide))).2.trans (congrArg some (f3 26 (by decide) (hl 26 (by decide))))
   ·exact (a 38 (by decide) (hl 38 (by decide))).2.trans (congrArg some (f3 38 (by decide) (hl 38 (by decide))))
   ·exact (a 44 (by decide) (hl 44 (by decide))).2.trans (congrArg some (f3 44 (by decide) (hl 44 (by decide))))
   ·exact (a 54 (by decide) (hl 54 (by decide))).2.trans (congrArg some (f3 54 (by decide) (hl 54 (by decide))))
   ·rw [t3]; simp [hl, mk7, look7]
   ·rw [t3]; simp [hl, mk7, look7]
   ·rw [t3]; simp [hl, mk7, look7]
   ·rw [t3]; simp [hl, mk7, look7]
   ·intro k k1 k2 k3 k4; rw [t3]; simp [look7, k1, k2, k3, k4]
 obtain ⟨A, rfl, HA⟩ := hcut
 clear G3 G4 G5 G6 G7 G8 G9 G10 G11 HB3
 go_wp2_with fail
 go_ret
 exact ⟨A, rfl, HA.out⟩
end Go.Proofs.YtgeonppckeiceaaGreatDoor.Ms
