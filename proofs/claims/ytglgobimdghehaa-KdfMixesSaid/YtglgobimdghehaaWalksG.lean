/- The document's store in memory, and its Get, for every store of at most 2^20 terms and every name. -/
import Derived.Test.YtglgobimdghehaaWalksN
namespace Go.Proofs.Ytglgobimdghehaa
open Go.RowKit
set_option linter.unusedVariables false

def Tm.v (t : Tm) : Value := .agg #[.int .i64 t.K, .string t.S, .int .u64 t.N, .int .i64 t.A, .int .i64 t.B, .int .i64 t.C]
def Tm.cl (t : Tm) : List Value := [.int .i64 t.K, .string t.S, .int .u64 t.N, .int .i64 t.A, .int .i64 t.B, .int .i64 t.C]
def cellsL (L : List Tm) : List Value := L.flatMap Tm.cl
def zeroT : Tm := ⟨0, ⟨#[]⟩, 0, 0, 0, 0⟩
def getT (L : List Tm) (name : Int) : Tm × Bool := if 1 ≤ name ∧ name ≤ (L.length : Int) then (L.getD (name - 1).toNat zeroT, true) else (zeroT, false)

theorem cellsL_at (L : List Tm) : ∀ (k j : Nat), j < 6 → k < L.length → (cellsL L)[k * 6 + j]? = (L.getD k zeroT).cl[j]? := by
  induction L with
  | nil => intro k j _ h; simp at h
  | cons t L ih =>
    intro k j hj hk
    show (t.cl ++ cellsL L)[k * 6 + j]? = _
    cases k with
    | zero => rw [List.getElem?_append_left (by simp [Tm.cl]; omega)]; simp
    | succ k =>
      rw [List.getElem?_append_right (by simp [Tm.cl]; omega)]
      have e : (k + 1) * 6 + j - t.cl.length = k * 6 + j := by simp [Tm.cl]; omega
      rw [e, ih k j hj (by simpa using hk)]
      simp
theorem cellsL_length (L : List Tm) : (cellsL L).length = L.length * 6 := by
  induction L with
  | nil => rfl
  | cons t L ih => show (t.cl ++ cellsL L).length = _; simp [ih, Tm.cl]; omega

/-- The document's store: its struct at block g, its slice sv, which the call owns from base on. -/
def RS (base g : Nat) (sv : Value) (L : List Tm) (most : Int) (w : World) : Prop :=
  w.heap[g]? = some (.cells #[sv, .int .i64 most] 71 (0, 0)) ∧ w.ownsRow base 63 6 sv L.length (cellsL L) ∧ base ≤ g ∧ sv.ownBlock ≠ some g ∧ L.length ≤ 1048576

theorem RS.head {base g : Nat} {sv : Value} {L : List Tm} {most : Int} {w : World} (h : RS base g sv L most w) : ∃ a cap, sv = .slice a L.length cap ∧ w.cell? ⟨g, 0, none⟩ = some (.slice a L.length cap) ∧ w.cell? ⟨g, 1, none⟩ = some (.int .i64 most) := by
  obtain ⟨h1, h2, _⟩ := h
  have c0 : w.cell? ⟨g, 0, none⟩ = some sv := by rw [cell_of_row w g 0 _ _ _ h1]; rfl
  have c1 : w.cell? ⟨g, 1, none⟩ = some (.int .i64 most) := by rw [cell_of_row w g 1 _ _ _ h1]; rfl
  rcases h2.2 with ⟨hv, hn⟩ | ⟨b, cap, cur, hv, _⟩
  · exact ⟨none, 0, by rw [hv, hn], by rw [c0, hv, hn], c1⟩
  · exact ⟨_, cap, hv, by rw [c0, hv], c1⟩

theorem RS.row {base g : Nat} {sv : Value} {L : List Tm} {most : Int} {w : World} (h : RS base g sv L most w) (k : Nat) (hk : k < L.length) :
    ∃ b cap, sv = .slice (some ⟨b, 0, none⟩) L.length cap ∧ ∀ j v, (L.getD k zeroT).cl[j]? = some v → w.cell? ⟨b, k * 6 + j, none⟩ = some v := by
  obtain ⟨h1, h2, _⟩ := h
  rcases h2.2 with ⟨hv, hn⟩ | ⟨b, cap, cur, hv, hb, hg, hc1, hc2, hc3, hc4⟩
  · omega
  · refine ⟨b, cap, hv, ?_⟩
    intro j v hj
    have hj6 : j < 6 := by
      rcases Nat.lt_or_ge j 6 with q | q
      · exact q
      · rw [List.getElem?_eq_none (by simp [Tm.cl]; omega)] at hj; cases hj
    have := h2.cells (g := b) (by rw [hv]; rfl) (k * 6 + j) v (by rw [cellsL_at L k j hj6 hk]; exact hj)
    have e : (⟨b, 0, none⟩ : Addr).add (k * 6 + j) = ⟨b, k * 6 + j, none⟩ := by unfold Addr.add; split <;> simp_all
    rwa [e] at this

set_option maxHeartbeats 400000 in
theorem get_in (g b n cap k : Nat) (K : Int) (S : ByteArray) (N A B C : Int) (w : World) (hg : w.cell? ⟨g, 0, none⟩ = some (.slice (some ⟨b, 0, none⟩) n cap)) (hk : k < n) (hn : (n : Int) ≤ 1048576)
    (c0 : w.cell? ⟨b, k * 6, none⟩ = some (.int .i64 K)) (c1 : w.cell? ⟨b, k * 6 + 1, none⟩ = some (.string S)) (c2 : w.cell? ⟨b, k * 6 + 2, none⟩ = some (.int .u64 N)) (c3 : w.cell? ⟨b, k * 6 + 3, none⟩ = some (.int .i64 A)) (c4 : w.cell? ⟨b, k * 6 + 4, none⟩ = some (.int .i64 B)) (c5 : w.cell? ⟨b, k * 6 + 5, none⟩ = some (.int .i64 C)) :
    Calls Try.prog 29 #[.pointer (some ⟨g, 0, none⟩), .int .i64 ((k : Int) + 1)] w fun e w' =>
      e = .returned (.tuple #[.agg #[.int .i64 K, .string S, .int .u64 N, .int .i64 A, .int .i64 B, .int .i64 C], .bool true]) ∧ Below w.heap.size w w' := by
  have hgb := block_lt_of_cell hg
  have hbb := block_lt_of_cell c0
  dsimp only at hgb hbb
  have e1 : decide ((k : Int) + 1 < 1) = false := by simp; omega
  have e2 : decide ((n : Int) < (k : Int) + 1) = false := by simp; omega
  have e3 : (k : Int) < n := by omega
  have e4 : (k : Int) + 1 - 1 = k := by omega
  go_enter Try.func29, Try.ntmps29
  go_wp2
  exact bodyPost_ret (v := .tuple #[.agg #[.int .i64 K, .string S, .int .u64 N, .int .i64 A, .int .i64 B, .int .i64 C], .bool true]) (by simp [results, Try.results29, go_sem]) rfl ⟨rfl, (Below.refl _ _).alloc (Nat.le_refl _) _⟩

set_option maxHeartbeats 400000 in
theorem get_low (g : Nat) (name : Int) (w : World) (h : name < 1) :
    Calls Try.prog 29 #[.pointer (some ⟨g, 0, none⟩), .int .i64 name] w fun e w' => e = .returned (.tuple #[zeroT.v, .bool false]) ∧ Below w.heap.size w w' := by
  have e1 : decide (name < 1) = true := by simp; omega
  go_enter Try.func29, Try.ntmps29
  go_wp2
  exact bodyPost_ret (v := .tuple #[zeroT.v, .bool false]) (by simp [results, Try.results29, go_sem, zeroT, Tm.v]) rfl ⟨rfl, (Below.refl _ _).alloc (Nat.le_refl _) _⟩

set_option maxHeartbeats 400000 in
theorem get_high (g n cap : Nat) (a : Option Addr) (name : Int) (w : World) (hg : w.cell? ⟨g, 0, none⟩ = some (.slice a n cap)) (h : (n : Int) < name) :
    Calls Try.prog 29 #[.pointer (some ⟨g, 0, none⟩), .int .i64 name] w fun e w' => e = .returned (.tuple #[zeroT.v, .bool false]) ∧ Below w.heap.size w w' := by
  have hgb := block_lt_of_cell hg
  dsimp only at hgb
  have e1 : decide (name < 1) = false := by simp; omega
  have e2 : decide ((n : Int) < name) = true := by simp; omega
  go_enter Try.func29, Try.ntmps29
  go_wp2
  exact bodyPost_ret (v := .tuple #[zeroT.v, .bool false]) (by simp [results, Try.results29, go_sem, zeroT, Tm.v]) rfl ⟨rfl, (Below.refl _ _).alloc (Nat.le_refl _) _⟩

theorem get_any {base g : Nat} {sv : Value} {L : List Tm} {most : Int} (w : World) (h : RS base g sv L most w) (name : Int) :
    Calls Try.prog 29 #[.pointer (some ⟨g, 0, none⟩), .int .i64 name] w fun e w' => e = .returned (.tuple #[(getT L name).1.v, .bool (getT L name).2]) ∧ Below w.heap.size w w' := by
  obtain ⟨a, cap, hsv, c0, c1⟩ := h.head
  by_cases h1 : name < 1
  · have e : getT L name = (zeroT, false) := by unfold getT; rw [if_neg (by omega)]
    rw [e]; exact get_low g name w h1
  by_cases h2 : (L.length : Int) < name
  · have e : getT L name = (zeroT, false) := by unfold getT; rw [if_neg (by omega)]
    rw [e]; exact get_high g L.length cap a name w c0 h2
  obtain ⟨k, hk⟩ : ∃ k : Nat, name = (k : Int) + 1 := ⟨(name - 1).toNat, by omega⟩
  subst hk
  have hkl : k < L.length := by omega
  have e : getT L ((k : Int) + 1) = (L.getD k zeroT, true) := by unfold getT; rw [if_pos (by omega), show ((k : Int) + 1 - 1).toNat = k from by omega]
  rw [e]
  obtain ⟨b, cap', hsv', hrow⟩ := h.row k hkl
  rw [hsv] at hsv'
  injection hsv' with p1 p2 p3
  subst p1
  exact get_in g b L.length cap k _ _ _ _ _ _ w c0 hkl (by have := h.2.2.2.2; omega) (hrow 0 _ rfl) (hrow 1 _ rfl) (hrow 2 _ rfl) (hrow 3 _ rfl) (hrow 4 _ rfl) (hrow 5 _ rfl)
end Go.Proofs.Ytglgobimdghehaa
