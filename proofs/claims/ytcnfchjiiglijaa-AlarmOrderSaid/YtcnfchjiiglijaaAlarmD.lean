/- Alarms in a plain list, as the document answers: what each call makes of it; rows of alarms, wherever they lie and of the call's own; the document's set of alarms in memory. -/
import Derived.Test.YtcnfchjiiglijaaHeapM
import Derived.Test.YtcnfchjiiglijaaRowB
import Derived.Deep.Slices
namespace Go.Proofs.Ytcnfchjiiglijaa
open Go.RowKit
set_option linter.unusedVariables false
set_option linter.unusedSimpArgs false
set_option maxRecDepth 20000

/-! ### The document's answers -/
def foundD (id : Int) (L : List On) : Nat := L.findIdx (fun o => o.id == id)
def placeD (id : Int) (L : List On) : Int := if foundD id L < L.length then (foundD id L : Int) else -1
def dropD (id : Int) (L : List On) : List On := if foundD id L < L.length then L.take (foundD id L) ++ L.drop (foundD id L + 1) else L
def hasD (id : Int) (L : List On) : Bool := decide (foundD id L < L.length)
def insStep (x : On) (s : List On × Bool) (o : On) : List On × Bool := if (!s.2 && ltO x o) = true then (s.1 ++ [x] ++ [o], true) else (s.1 ++ [o], s.2)
def insGo (x : On) (L : List On) : List On × Bool := L.foldl (insStep x) ([], false)
def insD (x : On) (L : List On) : List On := if (insGo x L).2 = true then (insGo x L).1 else (insGo x L).1 ++ [x]
def putD (most id at_ : Int) (L : List On) : List On × Nat :=
  if hasD id L = false ∧ max 0 most ≤ (L.length : Int) then (L, 8) else (insD ⟨id, at_⟩ (dropD id L), 0)
def dueD (now : Int) (L : List On) : List Int := (L.takeWhile (fun o => decide (o.at_ ≤ now))).map On.id
def restD (now : Int) (L : List On) : List On := L.dropWhile (fun o => decide (o.at_ ≤ now))
def firstD : List On → Int × Bool
  | [] => (0, false)
  | o :: _ => (o.at_, true)

theorem found_le (id : Int) (L : List On) : foundD id L ≤ L.length := List.findIdx_le_length
theorem found_not {id : Int} {L : List On} {j : Nat} (h : j < foundD id L) : ((gt L j).id == id) = false := by
  have hl := found_le id L
  have := List.not_of_lt_findIdx (p := fun o : On => o.id == id) (xs := L) (i := j) h
  rw [gt_eq (by omega)]
  simpa using this
theorem found_at {id : Int} {L : List On} (h : foundD id L < L.length) : ((gt L (foundD id L)).id == id) = true := by
  rw [gt_eq h]
  exact List.findIdx_getElem (p := fun o : On => o.id == id) (w := h)
theorem found_all {id : Int} {L : List On} {k : Nat} (h : ∀ j, j < k → ((gt L j).id == id) = false) (hk : k ≤ L.length) : k ≤ foundD id L := by
  rcases Nat.lt_or_ge (foundD id L) k with q | q
  · have := h _ q
    rw [found_at (by omega)] at this
    cases this
  · exact q
theorem found_is {id : Int} {L : List On} {k : Nat} (h : ∀ j, j < k → ((gt L j).id == id) = false) (hk : k < L.length) (ha : ((gt L k).id == id) = true) : foundD id L = k := by
  have h1 := found_all h (by omega)
  rcases Nat.lt_or_ge k (foundD id L) with q | q
  · rw [found_not q] at ha; cases ha
  · omega
theorem dropD_len (id : Int) (L : List On) : (dropD id L).length ≤ L.length := by
  unfold dropD
  split
  · simp; omega
  · exact Nat.le_refl _
theorem insGo_take {x : On} {L : List On} {k : Nat} (h : k < L.length) : insGo x (L.take (k + 1)) = insStep x (insGo x (L.take k)) (gt L k) := by
  unfold insGo
  rw [List.take_succ_eq_append_getElem h, List.foldl_append, gt_eq h]
  rfl
theorem insGo_len (x : On) (L : List On) : (insGo x L).1.length ≤ L.length + 1 ∧ ((insGo x L).2 = false → (insGo x L).1 = L) := by
  suffices h : ∀ (L : List On) (s : List On × Bool), (s.2 = false → (L.foldl (insStep x) s).1.length ≤ s.1.length + L.length + 1) ∧ (s.2 = true → (L.foldl (insStep x) s).1.length = s.1.length + L.length ∧ (L.foldl (insStep x) s).2 = true) ∧ ((L.foldl (insStep x) s).2 = false → (L.foldl (insStep x) s).1 = s.1 ++ L) by
    have := h L ([], false)
    refine ⟨by have := this.1 rfl; simpa [insGo] using this, fun q => by have := this.2.2 q; simpa [insGo] using this⟩
  intro L
  induction L with
  | nil => intro s; simp
  | cons o r ih =>
    intro s
    rw [List.foldl_cons]
    obtain ⟨i1, i2, i3⟩ := ih (insStep x s o)
    cases hb : (!s.2 && ltO x o) with
    | true =>
      have e : insStep x s o = (s.1 ++ [x] ++ [o], true) := by unfold insStep; rw [hb]; rfl
      rw [e] at i1 i2 i3 ⊢
      obtain ⟨j1, j2⟩ := i2 rfl
      have hs2 : s.2 = false := by cases h : s.2 <;> simp [h] at hb ⊢
      refine ⟨fun _ => by rw [j1]; simp; omega, fun h => (by rw [hs2] at h; cases h), fun h => by rw [j2] at h; cases h⟩
    | false =>
      have e : insStep x s o = (s.1 ++ [o], s.2) := by unfold insStep; rw [hb]; rfl
      rw [e] at i1 i2 i3 ⊢
      refine ⟨fun h => by have := i1 h; simp at this ⊢; omega, fun h => by obtain ⟨j1, j2⟩ := i2 h; refine ⟨by rw [j1]; simp; omega, j2⟩, fun h => by rw [i3 h]; simp⟩

/-! ### Rows of alarms -/
def On.cl (o : On) : Array Value := #[.int .u64 o.id, .int .u64 o.at_]
def On.v (o : On) : Value := .agg o.cl
theorem infoO : (Try.prog.info? 70).map (fun i => (i.zero, i.size, i.bytes)) = some (some zeroO.v, 2, 16) := by kernel_rfl
theorem infoU : (Try.prog.info? 29).map (fun i => (i.zero, i.size, i.bytes)) = some (some (.int .u64 0), 1, 8) := by kernel_rfl
def cellsO : List On → List Value
  | [] => []
  | o :: r => o.cl.toList ++ cellsO r
theorem clO_len (o : On) : o.cl.toList.length = 2 := rfl
theorem cellsO_len (L : List On) : (cellsO L).length = L.length * 2 := by
  induction L with
  | nil => rfl
  | cons f r ih => rw [cellsO, List.length_append, clO_len, ih, List.length_cons]; omega
theorem cellsO_app (L M : List On) : cellsO (L ++ M) = cellsO L ++ cellsO M := by
  induction L with
  | nil => rfl
  | cons f r ih => rw [List.cons_append, cellsO, cellsO, ih, List.append_assoc]
theorem cellsO_at (L : List On) : ∀ (k j : Nat), j < 2 → k < L.length → (cellsO L)[k * 2 + j]? = (gt L k).cl[j]? := by
  induction L with
  | nil => intro k j _ hk; simp at hk
  | cons f r ih =>
    intro k j hj hk
    rw [cellsO]
    cases k with
    | zero =>
      rw [List.getElem?_append_left (by rw [clO_len]; omega)]
      simp [gt]
    | succ k =>
      rw [List.getElem?_append_right (by rw [clO_len]; omega), clO_len, show (k + 1) * 2 + j - 2 = k * 2 + j by omega, ih k j hj (by simpa using hk)]
      simp [gt]
theorem cellsO_one (L : List On) : ∀ u ∈ cellsO L, u.oneCell' = true := by
  induction L with
  | nil => intro u hu; simp [cellsO] at hu
  | cons f r ih =>
    intro u hu
    rw [cellsO, List.mem_append] at hu
    rcases hu with q | q
    · simp only [On.cl, List.mem_cons, List.not_mem_nil, or_false] at q
      rcases q with rfl | rfl <;> rfl
    · exact ih u q
/-- A row of alarms, wherever it lies. -/
def RowO (w : World) (a : Option Addr) (cap : Nat) (L : List On) : Prop :=
  L.length ≤ cap ∧ cap ≤ maxLen ∧ ∃ b off, ∀ j, j < L.length → a = some ⟨b, off, none⟩ ∧ w.cell? ⟨b, off + j * 2, none⟩ = some (.int .u64 (gt L j).id) ∧ w.cell? ⟨b, off + j * 2 + 1, none⟩ = some (.int .u64 (gt L j).at_)
theorem RowO.chg {S : Nat → Prop} {w w' : World} {a : Option Addr} {cap : Nat} {L : List On} (h : RowO w a cap L) (hc : Chg S w w') (hn : ∀ p, a = some p → ¬ S p.block) : RowO w' a cap L := by
  obtain ⟨h1, h2, b, off, h3⟩ := h
  refine ⟨h1, h2, b, off, fun j hj => ?_⟩
  obtain ⟨e, c0, c1⟩ := h3 j hj
  have hb : ¬ S b := hn _ e
  have key : ∀ o v, w.cell? ⟨b, o, none⟩ = some v → w'.cell? ⟨b, o, none⟩ = some v := by
    intro o v hv
    have := hc.block b (block_lt_of_cell hv) hb
    simp only [World.cell?, this]
    exact hv
  exact ⟨e, key _ _ c0, key _ _ c1⟩
theorem RowO.below {w w' : World} {a : Option Addr} {cap : Nat} {L : List On} (h : RowO w a cap L) (hb : Below w.heap.size w w') : RowO w' a cap L := h.chg (Chg.of_below (S := fun _ => False) hb) (fun _ _ q => q)
theorem RowO.len {w : World} {a : Option Addr} {cap : Nat} {L : List On} (h : RowO w a cap L) : L.length ≤ 9223372036854775807 := by
  have := h.1
  have := h.2.1
  unfold maxLen at this
  omega
def OwnO (t : TypeId) (base : Nat) (v : Value) (L : List On) (w : World) : Prop := w.ownsRow base t 2 v L.length (cellsO L)
section
variable {t : TypeId} {base : Nat} {v : Value} {L : List On} {w w' : World}
theorem OwnO.new (t : TypeId) (w : World) (hb : base ≤ w.heap.size) : OwnO t base (.slice (some ⟨w.heap.size, 0, none⟩) 0 0) [] (w.alloc (.cells #[] t)) := World.ownsRow_made w #[] 0 hb (Nat.zero_le _) rfl
theorem OwnO.nil (t : TypeId) (base : Nat) (w : World) : OwnO t base (.slice Option.none 0 0) [] w := World.ownsRow_nil _ _ _ _
theorem OwnO.chg {S : Nat → Prop} (h : OwnO t base v L w) (hc : Chg S w w') (hn : ∀ j, v.ownBlock = some j → ¬ S j) : OwnO t base v L w' := hc.row h hn
theorem OwnO.below (h : OwnO t base v L w) (hb : Below w.heap.size w w') : OwnO t base v L w' := (Chg.of_below (S := fun _ => False) hb).row h (fun _ _ q => q)
theorem OwnO.at (h : OwnO t base v L w) : ∃ a cap, v = .slice a L.length cap ∧ RowO w a cap L ∧ ∀ p, a = some p → base ≤ p.block ∧ ∃ cs fr, w.heap[p.block]? = some (.cells cs t fr) := by
  have h' : w.ownsRow base t 2 v L.length (cellsO L) := h
  rcases h'.2 with ⟨hv, hn⟩ | ⟨g, cap, cur, hv, hg, hh, h1, h2, h3, h4⟩
  · have e : L = [] := List.eq_nil_of_length_eq_zero hn
    subst e
    exact ⟨Option.none, 0, hv, ⟨Nat.le_refl _, Nat.zero_le _, 0, 0, fun j hj => absurd hj (Nat.not_lt_zero _)⟩, fun p hp => by cases hp⟩
  · have key : ∀ j i u, j < L.length → (gt L j).cl[i]? = some u → w.cell? ⟨g, j * 2 + i, none⟩ = some u := by
      intro j i u hj hu
      have hi : i < 2 := by
        rcases Nat.lt_or_ge i 2 with q | q
        · exact q
        · rw [Array.getElem?_eq_none (by simpa [On.cl] using q)] at hu; cases hu
      have := h'.cells (g := g) (by rw [hv]; rfl) (j * 2 + i) u (by rw [cellsO_at L j i hi hj]; exact hu)
      rw [addr_add] at this
      exact this
    refine ⟨_, cap, hv, ⟨h1, h2, g, 0, fun j hj => ⟨rfl, ?_, ?_⟩⟩, fun p hp => by cases hp; exact ⟨hg, _, _, hh⟩⟩
    · rw [Nat.zero_add]; exact key j 0 _ hj rfl
    · rw [Nat.zero_add]; exact key j 1 _ hj rfl
end
structure AppdO (t : TypeId) (base : Nat) (v v' : Value) (M N : List On) (w w' : World) : Prop where
  own : OwnO t base v' (M ++ N) w'
  low : Below base w w'
  size : w.heap.size ≤ w'.heap.size
  grown : w.grownBy w' v.ownBlock
/-- Some alarms of a row that lies elsewhere appended to one of the call's own. -/
theorem wpList_appO {ops : Array Oper} {rest : List Oper} {o : Oper} {a : Act} {Q : Exit → Act → World → Prop} (hgd : o.guard = none) (s xo : Operand) (t e : TypeId)
    (ht : Try.prog.underlying t = some (.slice e)) (hinf : (Try.prog.info? e).map (fun i => (i.zero, i.size, i.bytes)) = some (some zeroO.v, 2, 16))
    (ho : o.op = .call { callee := .builtin .append, args := #[s, xo], argTypes := #[t, t] })
    (base : Nat) (v : Value) (M N : List On) (w : World) (hs : a.eval s = v) (hown : OwnO e base v M w)
    (b off m c : Nat) (hx : a.eval xo = .slice (some ⟨b, off, none⟩) m c) (hm : m = N.length) (hB : ∀ j, j < N.length → w.cell? ⟨b, off + j * 2, none⟩ = some (.int .u64 (gt N j).id) ∧ w.cell? ⟨b, off + j * 2 + 1, none⟩ = some (.int .u64 (gt N j).at_)) (hM : M.length + N.length < 100000) (hbase : base ≤ w.heap.size)
    (h : ∀ v' w', AppdO e base v v' M N w w' → wpList Try.prog ops Q rest (a.put o.dst v') w') : wpList Try.prog ops Q (o :: rest) a w := by
  subst hm
  obtain ⟨i0, hi0, hz0, hz1, hz2⟩ : ∃ i0, Try.prog.info? e = some i0 ∧ i0.zero = some zeroO.v ∧ i0.size = 2 ∧ i0.bytes = 16 := by
    cases hi : Try.prog.info? e with
    | none => rw [hi] at hinf; cases hinf
    | some i0 =>
      rw [hi] at hinf
      simp only [Option.map_some, Option.some.injEq, Prod.mk.injEq] at hinf
      exact ⟨i0, rfl, hinf.1, hinf.2.1, hinf.2.2⟩
  refine wpList_append_own w hgd s xo t ho base e i0 zeroO.v 2 16 ht hi0 hz0 hz1 hz2 rfl (by decide) v M.length (cellsO M) hs hown ⟨b, off, none⟩ N.length c (cellsO N) hx (cellsO_len N) ?_ (cellsO_one N) (by unfold maxLen; omega) (by omega) hbase ?_
  · intro j u hu
    have hj : j < N.length * 2 := by
      rcases Nat.lt_or_ge j (N.length * 2) with q | q
      · exact q
      · rw [List.getElem?_eq_none (by rw [cellsO_len]; exact q)] at hu; cases hu
    have hadd : (⟨b, off, none⟩ : Addr).add j = ⟨b, off + j, none⟩ := by
      unfold Addr.add
      split
      · rename_i h0; subst h0; rfl
      · rfl
    rw [hadd]
    obtain ⟨c0, c1⟩ := hB (j / 2) (by omega)
    rcases Nat.mod_two_eq_zero_or_one j with q | q
    · have e : j = j / 2 * 2 + 0 := by omega
      rw [e, cellsO_at N (j / 2) 0 (by omega) (by omega)] at hu
      rw [e, Nat.add_zero, c0]
      exact hu
    · have e : j = j / 2 * 2 + 1 := by omega
      rw [e, cellsO_at N (j / 2) 1 (by omega) (by omega)] at hu
      rw [e, ← Nat.add_assoc, c1]
      exact hu
  · intro v' w' h1 h2 _
    refine h v' w' ⟨?_, (Chg.grown h2).below (fun j hj => (World.ownsRow.lt hown j hj.symm).1) hbase, h2.size, h2⟩
    unfold OwnO
    rw [List.length_append, cellsO_app]
    exact h1
/-- One alarm appended. -/
theorem wpList_appO1 {ops : Array Oper} {rest : List Oper} {o : Oper} {a : Act} {Q : Exit → Act → World → Prop} (hgd : o.guard = none) (s xo : Operand) (t e : TypeId)
    (ht : Try.prog.underlying t = some (.slice e)) (hinf : (Try.prog.info? e).map (fun i => (i.zero, i.size, i.bytes)) = some (some zeroO.v, 2, 16))
    (ho : o.op = .call { callee := .builtin .append, args := #[s, xo], argTypes := #[t, t] })
    (base : Nat) (v : Value) (M : List On) (x : On) (w : World) (hs : a.eval s = v) (hown : OwnO e base v M w)
    (B c : Nat) (hx : a.eval xo = .slice (some ⟨B, 0, none⟩) 1 c) (hB : w.heap[B]? = some (.cells x.cl e (0, 0))) (hM : M.length < 90000) (hbase : base ≤ w.heap.size)
    (h : ∀ v' w', AppdO e base v v' M [x] w w' → wpList Try.prog ops Q rest (a.put o.dst v') w') : wpList Try.prog ops Q (o :: rest) a w :=
  wpList_appO hgd s xo t e ht hinf ho base v M [x] w hs hown B 0 1 c hx rfl (fun j hj => by
    obtain rfl : j = 0 := by simpa using hj
    simp [World.cell?, hB, On.cl, gt]) (by simp; omega) hbase h
end Go.Proofs.Ytcnfchjiiglijaa
