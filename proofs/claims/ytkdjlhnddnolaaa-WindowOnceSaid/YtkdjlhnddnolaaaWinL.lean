/- Windows: words for the laws: rows that came in, a window in a block of the call's own. -/
import Derived.Test.YtkdjlhnddnolaaaWinX
import Derived.Deep.Slices
import Derived.StillTailTactics
import Derived.Deep.CutRange
import Derived.Deep.LoopGhost
import Derived.ProofKit
import Derived.OpenShut
import Derived.ShutString
import Derived.ChangeOld
import Derived.Below
namespace Go.Proofs.Ytkdjlhnddnolaaa
open Go.RowKit
open Go.ChangeShapes Go.WideShapes
set_option linter.unusedVariables false
set_option linter.unusedSimpArgs false
set_option maxRecDepth 20000
/-- A row of integers that came in, or nil. -/
def IsRow (k : IntKind) (w : World) (a : Option Addr) (len cap : Nat) (zs : List Int) : Prop :=
  (a = none ∧ len = 0 ∧ cap = 0 ∧ zs = []) ∨
  ∃ x, a = some x ∧ len ≤ cap ∧ cap ≤ maxLen ∧ zs.length = cap ∧ (∀ i, i < zs.length → w.cell? (x.add i) = some (.int k (zs.getD i 0))) ∧ ∀ n ∈ zs, (Lit.int k n).wf = true
/-- It is a row of as many numbers as it is long, each within its kind's bounds. -/
theorem IsRow.row {k : IntKind} {w : World} {a : Option Addr} {len cap : Nat} {zs : List Int} (h : IsRow k w a len cap zs) : ∃ ks : List Int, ks.length = len ∧ RowAt k w a cap ks ∧ (∀ x, x ∈ ks → (Lit.int k x).wf = true) ∧ ((a = none ∧ len = 0 ∧ cap = 0) ∨ ∃ x, a = some x) := by
  rcases h with ⟨rfl, rfl, rfl, rfl⟩ | ⟨x, rfl, hl, hm, hz, hc, hw⟩
  · exact ⟨[], rfl, RowAt.none k w, by simp, .inl ⟨rfl, rfl, rfl⟩⟩
  · have hlen : (zs.take len).length = len := by simp; omega
    refine ⟨zs.take len, hlen, ?_, fun y hy => hw y (List.mem_of_mem_take hy), .inr ⟨_, rfl⟩⟩
    by_cases hp : 0 < zs.length
    · obtain ⟨b, off, rfl, hcell⟩ := ints_at hc hp
      have hr : RowAt k w (some ⟨b, off, none⟩) cap zs := ⟨by omega, hm, b, off, fun j hj => ⟨rfl, hcell j hj⟩⟩
      exact hr.take len
    · have e : zs.take len = [] := List.eq_nil_of_length_eq_zero (by rw [hlen]; omega)
      rw [e]
      exact ⟨by simp, hm, 0, 0, fun j hj => absurd hj (Nat.not_lt_zero _)⟩
/-- A window lies in a block of the call's own. -/
def St (w : World) (Bw : Nat) (v : Wn) (wr : World) : Prop := w.heap.size ≤ Bw ∧ Below w.heap.size w wr ∧ wr.heap[Bw]? = some (.cells #[.int .u64 (v.next : Int), .int .u64 (v.bits : Int)] 24 (0, 0))
theorem St.low {w wr : World} {Bw : Nat} {v : Wn} (h : St w Bw v wr) : Below w.heap.size w wr := h.2.1
theorem St.blk {w wr : World} {Bw : Nat} {v : Wn} (h : St w Bw v wr) : wr.heap[Bw]? = some (.cells #[.int .u64 (v.next : Int), .int .u64 (v.bits : Int)] 24 (0, 0)) := h.2.2
theorem St.below {w wr u : World} {Bw : Nat} {v : Wn} (h : St w Bw v wr) (hb : Below wr.heap.size wr u) : St w Bw v u := ⟨h.1, h.2.1.trans (hb.mono h.2.1.size), (hb.block _ (blk_lt h.2.2)).trans h.2.2⟩
theorem St.put {w wr : World} {Bw : Nat} {v : Wn} (h : St w Bw v wr) (a b : Nat) : St w Bw ⟨a, b⟩ ((wr.setCell ⟨Bw, 0, none⟩ (.int .u64 (a : Int))).setCell ⟨Bw, 1, none⟩ (.int .u64 (b : Int))) :=
  ⟨h.1, h.2.1.trans (fill2_below _ _ _ h.2.1.size h.1), fill2 Bw _ _ h.2.2⟩
theorem St.other {w wr : World} {Bw C : Nat} {v : Wn} (h : St w Bw v wr) (hC : w.heap.size ≤ C) (hne : Bw ≠ C) (x y : Value) : St w Bw v ((wr.setCell ⟨C, 0, none⟩ x).setCell ⟨C, 1, none⟩ y) :=
  ⟨h.1, h.2.1.trans (fill2_below _ _ _ h.2.1.size hC), by
    rw [heap_setCell_other _ _ _ _ (by exact hne), heap_setCell_other _ _ _ _ (by exact hne)]
    exact h.2.2⟩
theorem St.new (w w1 : World) (h : Below w.heap.size w w1) (a b : Nat) : St w w1.heap.size ⟨a, b⟩ (w1.alloc (.cells #[.int .u64 (a : Int), .int .u64 (b : Int)] 24 : Obj)) :=
  ⟨h.size, h.trans ((below_alloc w1 _).mono h.size), heap_alloc_new w1 _⟩
theorem wins_eq {a b c d : Nat} (h : a = c) (k : b = d) (u : World) : (binOp .eql 24 (.agg #[.int .u64 (a : Int), .int .u64 (b : Int)]) (.agg #[.int .u64 (c : Int), .int .u64 (d : Int)])).run Try.prog u = .ok (.bool true) u := by
  subst h k
  rw [eqlW]
  simp
theorem Inv.lt {L : List Nat} {v : Wn} (h : Inv L v) {m : Nat} (hm : ∀ x, x ∈ L → x ≤ m) : v.next ≤ m + 1 := by
  by_cases hL : L = []
  · rw [h.none hL]
    exact Nat.zero_le _
  · have := hm _ (h.top hL).1
    omega
/-- A number comes that is not far: it is taken, or it came. -/
theorem Inv.step {L : List Nat} {v : Wn} (h : Inv L v) {p : Nat} (hp : p < topN) (hn : ∀ x, x ∈ L → x ≤ p + 63) :
    ∃ (L' : List Nat) (v' : Wn), Inv L' v' ∧ (∀ x, x ∈ L' ↔ x = p ∨ x ∈ L) ∧ (takeW v p = (v', 0) ∨ (takeW v p = (⟨0, 0⟩, 12) ∧ v' = v)) := by
  cases hc : canW v p with
  | true => exact ⟨p :: L, putW v p, h.put hp hc, by simp, .inl (by unfold takeW; rw [if_neg (by omega), if_neg (by rw [hc]; decide)])⟩
  | false =>
    have hm : p ∈ L := by
      rcases Classical.em (p ∈ L) with q | q
      · exact q
      · have h9 := (h.can hp).2 ⟨q, fun ⟨e, l⟩ => by
          have := hn _ (h.top e).1
          omega⟩
        rw [h9] at hc
        cases hc
    refine ⟨L, v, h, fun x => ⟨.inr, fun q => ?_⟩, .inr ⟨by unfold takeW; rw [if_neg (by omega), if_pos hc], rfl⟩⟩
    rcases q with rfl | q
    · exact hm
    · exact q
/-- The numbers that came so far: the first i of them, or the last. -/
def Came (f : Nat → Nat) (i : Nat) (L : List Nat) : Prop := ∀ x, x ∈ L ↔ ∃ j, j < i ∧ x = f j
theorem Came.step {f : Nat → Nat} {i : Nat} {L L' : List Nat} (h : Came f i L) (hs : ∀ x, x ∈ L' ↔ x = f i ∨ x ∈ L) : Came f (i + 1) L' := fun x => by
  rw [hs x, h x]
  constructor
  · rintro (q | ⟨j, q1, q2⟩)
    · exact ⟨i, by omega, q⟩
    · exact ⟨j, by omega, q2⟩
  · rintro ⟨j, q1, q2⟩
    by_cases e : j = i
    · subst e; exact .inl q2
    · exact .inr ⟨j, by omega, q2⟩
def num (F : Nat) (ks : List Int) (j : Nat) : Nat := F + (ks.getD j 0).toNat % 64
theorem num_near (F : Nat) (ks : List Int) (j : Nat) : F ≤ num F ks j ∧ num F ks j ≤ F + 63 := by
  unfold num
  omega
theorem wins_two {a b c d : Nat} (h : (⟨a, b⟩ : Wn) = ⟨c, d⟩) : a = c ∧ b = d := by
  injection h with h1 h2
  exact ⟨h1, h2⟩
end Go.Proofs.Ytkdjlhnddnolaaa
