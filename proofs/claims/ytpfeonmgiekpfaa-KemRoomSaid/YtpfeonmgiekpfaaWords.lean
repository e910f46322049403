/- Small words that the contracts of all later layers share. -/
import Derived.Test.YtpfeonmgiekpfaaNamed
namespace Go.Proofs.Ytpfeonmgiekpfaa
open Go.RowKit
set_option linter.unusedVariables false

def I64 (x : Int) : Prop := (Lit.int .i64 x).wf = true
theorem i64_small {x : Int} (h1 : 0 ≤ x) (h2 : x ≤ 1048577) : I64 x := wf_small x h1 h2
theorem wf_emp : (⟨#[]⟩ : ByteArray).size ≤ maxLen := by decide
theorem k0 : I64 0 := by unfold I64; decide
theorem k1 : I64 1 := by unfold I64; decide
theorem k2 : I64 2 := by unfold I64; decide
theorem k3 : I64 3 := by unfold I64; decide
theorem k4 : I64 4 := by unfold I64; decide
theorem k5 : I64 5 := by unfold I64; decide
theorem k6 : I64 6 := by unfold I64; decide
theorem k7 : I64 7 := by unfold I64; decide
theorem k8 : I64 8 := by unfold I64; decide
theorem k9 : I64 9 := by unfold I64; decide
theorem k10 : I64 10 := by unfold I64; decide
theorem k11 : I64 11 := by unfold I64; decide
theorem k99 : I64 99 := by unfold I64; decide
theorem u0 : (Lit.int .u64 0).wf = true := by decide
theorem u1 : (Lit.int .u64 1).wf = true := by decide
theorem u2 : (Lit.int .u64 2).wf = true := by decide
/-- A result of two, and of one, in one word. -/
def Two (v1 v2 : Value) (P : World → Prop) (w : World) (e : Ending) (w' : World) : Prop := e = .returned (.tuple #[v1, v2]) ∧ P w' ∧ Below w.heap.size w w'
def One (v : Value) (P : World → Prop) (w : World) (e : Ending) (w' : World) : Prop := e = .returned v ∧ P w' ∧ Below w.heap.size w w'
theorem getT_in {L : List Tm} {p : Int} {t : Tm} (h : getT L p = (t, true)) : 1 ≤ p ∧ p ≤ (L.length : Int) ∧ t = L.getD (p - 1).toNat zeroT := by
  unfold getT at h
  split at h
  · rename_i hp
    injection h with h1 h2
    exact ⟨hp.1, hp.2, h1.symm⟩
  · injection h with h1 h2; cases h2
theorem getT_no {L : List Tm} {p : Int} {t : Tm} (h : getT L p = (t, false)) : t = zeroT := by
  unfold getT at h
  split at h
  · injection h with h1 h2; cases h2
  · injection h with h1 h2; exact h1.symm
/-- The parts of a term that is there are names of terms that are. -/
theorem part_in {L : List Tm} (hf : Fit L) {p : Int} {t : Tm} (h : getT L p = (t, true)) (j : Nat) (hj : j < many t.K) : 1 ≤ prt t.A t.B t.C j ∧ prt t.A t.B t.C j < p := by
  obtain ⟨q1, q2, q3⟩ := getT_in h
  have h3 := hf (p - 1).toNat (by omega) j (by rw [← q3]; exact hj)
  rw [← q3] at h3
  omega
theorem Ext.len {L L' : List Tm} (h : Ext L L') {x : Int} (hx : x ≤ (L.length : Int)) : x ≤ (L'.length : Int) := by have := h.1; omega
/-- The number of a term there, out of a byte. -/
theorem byte_in {a : Int} (ha : (Lit.int .u8 a).wf = true) : 0 ≤ a ∧ a ≤ 255 := by
  have e1 : IntKind.u8.min = 0 := by decide
  have e2 : IntKind.u8.max = 255 := by decide
  simpa only [Lit.wf, e1, e2, Bool.and_eq_true, decide_eq_true_eq] using ha
theorem pick_val (a n : Int) (ha : (Lit.int .u8 a).wf = true) (h1 : 0 < n) (h2 : n ≤ 1000) : wrap64 (1 + (wrap64 a).tmod n) = 1 + a % n := by
  have ha := byte_in ha
  have w1 : wrap64 a = a := by unfold wrap64; omega
  rw [w1, Int.tmod_eq_emod_of_nonneg ha.1]
  have b1 := Int.emod_nonneg a (by omega : n ≠ 0)
  have b2 := Int.emod_lt_of_pos a h1
  unfold wrap64
  omega
theorem pick_in (a n : Int) (ha : (Lit.int .u8 a).wf = true) (h1 : 0 < n) (h2 : n ≤ 1000) : 1 ≤ wrap64 (1 + (wrap64 a).tmod n) ∧ wrap64 (1 + (wrap64 a).tmod n) ≤ n := by
  rw [pick_val a n ha h1 h2]
  have b1 := Int.emod_nonneg a (by omega : n ≠ 0)
  have b2 := Int.emod_lt_of_pos a h1
  omega
/-- What two tests tell that are one. -/
theorem beqs {a b c d : Int} (h : a = b ↔ c = d) : ∃ t : Bool, (a == b) = t ∧ (c == d) = t := by
  refine ⟨(c == d), ?_, rfl⟩
  rw [Bool.eq_iff_iff]
  simpa using h
/-- Blocks behind a call that leaves what is. -/
theorem keep_block {w w1 : World} {o ob : Obj} {k : Nat} (hb : Below (w.alloc o).heap.size (w.alloc o) w1) (h : w.heap[k]? = some ob) : w1.heap[k]? = some ob := by
  have hk : k < w.heap.size := blk_lt h
  rw [hb.block k (by simp; omega), ((Below.refl w.heap.size w).alloc (Nat.le_refl _) o).block k hk]
  exact h
theorem new_block {w w1 : World} {cs : Array Value} {t : TypeId} (hb : Below (w.alloc (.cells cs t)).heap.size (w.alloc (.cells cs t)) w1) : w1.heap[w.heap.size]? = some (.cells cs t (0, 0)) := by
  rw [hb.block _ (by simp)]
  exact heap_alloc_new w _
end Go.Proofs.Ytpfeonmgiekpfaa
