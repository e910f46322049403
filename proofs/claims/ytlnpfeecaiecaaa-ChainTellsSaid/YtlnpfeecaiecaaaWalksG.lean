/- The document's store in memory, and its Get, for every store of at most 2^20 terms and every name. -/
import Derived.Test.YtlnpfeecaiecaaaWalksN
namespace Go.Proofs.Ytlnpfeecaiecaaa
open Go.RowKit
set_option linter.unusedVariables false
set_option maxRecDepth 20000

def Tm.v (t : Tm) : Value := .agg #[.int .i64 t.K, .string t.S, .int .u64 t.N, .int .i64 t.A, .int .i64 t.B, .int .i64 t.C]
def Tm.cl (t : Tm) : List Value := [.int .i64 t.K, .string t.S, .int .u64 t.N, .int .i64 t.A, .int .i64 t.B, .int .i64 t.C]
def cellsL (L : List Tm) : List Value := L.flatMap Tm.cl
def zeroT : Tm := ⟨0, ⟨#[]⟩, 0, 0, 0, 0⟩
def getT (L : List Tm) (name : Int) : Tm × Bool := if 1 ≤ name ∧ name ≤ (L.length : Int) then (L.getD (name - 1).toNat zeroT, true) else (zeroT, false)

theorem cellsL_at (L : List Tm) : ∀ (k j : Nat), j < 6 → k < L.length → (cellsL L)[k * 6 + j]? = (L.getD k zeroT).cl[j]? := by
  induction L with
  | nil => intro k j _ h; simp at h
  | cons t L ih =>
    intro k j hj hk
    show (t.cl ++ cellsL L)[k * 6 + j]? = _
    cases k with
    | zero => rw [List.getElem?_append_left (by simp [Tm.cl]; omega)]; simp
    | succ k =>
      rw [List.getElem?_append_right (by simp [Tm.cl]; omega)]
      have e : (k + 1) * 6 + j - t.cl.length = k * 6 + j := by simp [Tm.cl]; omega
      rw [e, ih k j hj (by simpa using hk)]
      simp
theorem cellsL_length (L : List Tm) : (cellsL L).length = L.length * 6 := by
  induction L with
  | nil => rfl
  | cons t L ih => show (t.cl ++ cellsL L).length = _; simp [ih, Tm.cl]; omega

/-- The document's store: its struct at block g, its slice sv, which the call owns from base on. -/
def RS (base g : Nat) (sv : Value) (L : List Tm) (most : Int) (w : World) : Prop :=
  w.heap[g]? = some (.cells #[sv, .int .i64 most] 84 (0, 0)) ∧ w.ownsRow base 74 6 sv L.length (cellsL L) ∧ base ≤ g ∧ sv.ownBlock ≠ some g ∧ L.length ≤ 1048576

theorem RS.head {base g : Nat} {sv : Value} {L : List Tm} {most : Int} {w : World} (h : RS base g sv L most w) : ∃ a cap, sv = .slice a L.length cap ∧ w.cell? ⟨g, 0, none⟩ = some (.slice a L.length cap) ∧ w.cell? ⟨g, 1, none⟩ = some (.int .i64 most) := by
  obtain ⟨h1, h2, _⟩ := h
  have c0 : w.cell? ⟨g, 0, none⟩ = some sv := by rw [cell_of_row w g 0 _ _ _ h1]; rfl
  have c1 : w.cell? ⟨g, 1, none⟩ = some (.int .i64 most) := by rw [cell_of_row w g 1 _ _ _ h1]; rfl
  rcases h2.2 with ⟨hv, hn⟩ | ⟨b, cap, cur, hv, _⟩
  · exact ⟨none, 0, by rw [hv, hn], by rw [c0, hv, hn], c1⟩
  · exact ⟨_, cap, hv, by rw [c0, hv], c1⟩

theorem RS.row {base g : Nat} {sv : Value} {L : List Tm} {most : Int} {w : World} (h : RS base g sv L most w) (k : Nat) (hk : k < L.length) :
    ∃ b cap, sv = .slice (some ⟨b, 0, none⟩) L.length cap ∧ ∀ j v, (L.getD k zeroT).cl[j]? = some v → w.cell? ⟨b, k * 6 + j, none⟩ = some v := by
  obtain ⟨h1, h2, _⟩ := h
  rcases h2.2 with ⟨hv, hn⟩ | ⟨b, cap, cur, hv, hb, hg, hc1, hc2, hc3, hc4⟩
  · omega
  · refine ⟨b, cap, hv, ?_⟩
    intro j v hj
    have hj6 : j < 6 := by
      rcases Nat.lt_or_ge j 6 with q | q
      · exact q
      · rw [List.getElem?_eq_none (by simp [Tm.cl]; omega)] at hj; cases hj
    have := h2.cells (g := b) (by rw [hv]; rfl) (k * 6 + j) v (by rw [cellsL_at L k j hj6 hk]; exact hj)
    have e : (⟨b, 0, none⟩ : Addr).add (k * 6 + j) = ⟨b, k * 6 + j, none⟩ := by unfold Addr.add; split <;> simp_all
    rwa [e] at this

end Go.Proofs.Ytlnpfeecaiecaaa
