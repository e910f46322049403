/- Small words that the contracts of all later layers share. -/
import Derived.Test.YtlnpfeecaiecaaaNamed
import Derived.OpenShut
namespace Go.Proofs.Ytlnpfeecaiecaaa
open Go.RowKit
set_option linter.unusedVariables false
set_option maxRecDepth 20000

def I64 (x : Int) : Prop := (Lit.int .i64 x).wf = true
theorem i64_small {x : Int} (h1 : 0 ≤ x) (h2 : x ≤ 1048577) : I64 x := wf_small x h1 h2
theorem wf_emp : (⟨#[]⟩ : ByteArray).size ≤ maxLen := by decide
theorem k0 : I64 0 := by unfold I64; decide
theorem k1 : I64 1 := by unfold I64; decide
theorem k2 : I64 2 := by unfold I64; decide
theorem k3 : I64 3 := by unfold I64; decide
theorem k4 : I64 4 := by unfold I64; decide
theorem k5 : I64 5 := by unfold I64; decide
theorem k6 : I64 6 := by unfold I64; decide
theorem k7 : I64 7 := by unfold I64; decide
theorem k8 : I64 8 := by unfold I64; decide
theorem k9 : I64 9 := by unfold I64; decide
theorem k10 : I64 10 := by unfold I64; decide
theorem k11 : I64 11 := by unfold I64; decide
theorem k99 : I64 99 := by unfold I64; decide
theorem u0 : (Lit.int .u64 0).wf = true := by decide
theorem u1 : (Lit.int .u64 1).wf = true := by decide
theorem u2 : (Lit.int .u64 2).wf = true := by decide
/-- A result of two, and of one, in one word. -/
def Two (v1 v2 : Value) (P : World → Prop) (w : World) (e : Ending) (w' : World) : Prop := e = .returned (.tuple #[v1, v2]) ∧ P w' ∧ Below w.heap.size w w'
def One (v : Value) (P : World → Prop) (w : World) (e : Ending) (w' : World) : Prop := e = .returned v ∧ P w' ∧ Below w.heap.size w w'
/-- A result of two, and of three, where terms may be put: the blocks of K stay. -/
def TwoK (v1 v2 : Value) (P : World → Prop) (K : Nat → Prop) (w : World) (e : Ending) (w' : World) : Prop := e = .returned (.tuple #[v1, v2]) ∧ P w' ∧ ∀ k, K k → w'.heap[k]? = w.heap[k]?
def Three (v1 v2 v3 : Value) (P : World → Prop) (K : Nat → Prop) (w : World) (e : Ending) (w' : World) : Prop := e = .returned (.tuple #[v1, v2, v3]) ∧ P w' ∧ ∀ k, K k → w'.heap[k]? = w.heap[k]?
def U64 (n : Int) : Prop := (Lit.int .u64 n).wf = true
theorem getT_in {L : List Tm} {p : Int} {t : Tm} (h : getT L p = (t, true)) : 1 ≤ p ∧ p ≤ (L.length : Int) ∧ t = L.getD (p - 1).toNat zeroT := by
  unfold getT at h
  split at h
  · rename_i hp
    injection h with h1 h2
    exact ⟨hp.1, hp.2, h1.symm⟩
  · injection h with h1 h2; cases h2
theorem getT_no {L : List Tm} {p : Int} {t : Tm} (h : getT L p = (t, false)) : t = zeroT := by
  unfold getT at h
  split at h
  · injection h with h1 h2; cases h2
  · injection h with h1 h2; exact h1.symm
/-- The parts of a term that is there are names of terms that are. -/
theorem part_in {L : List Tm} (hf : Fit L) {p : Int} {t : Tm} (h : getT L p = (t, true)) (j : Nat) (hj : j < many t.K) : 1 ≤ prt t.A t.B t.C j ∧ prt t.A t.B t.C j < p := by
  obtain ⟨q1, q2, q3⟩ := getT_in h
  have h3 := hf (p - 1).toNat (by omega) j (by rw [← q3]; exact hj)
  rw [← q3] at h3
  omega
theorem Ext.len {L L' : List Tm} (h : Ext L L') {x : Int} (hx : x ≤ (L.length : Int)) : x ≤ (L'.length : Int) := by have := h.1; omega
/-- The number of a term there, out of a byte. -/
theorem byte_in {a : Int} (ha : (Lit.int .u8 a).wf = true) : 0 ≤ a ∧ a ≤ 255 := by
  have e1 : IntKind.u8.min = 0 := by decide
  have e2 : IntKind.u8.max = 255 := by decide
  simpa only [Lit.wf, e1, e2, Bool.and_eq_true, decide_eq_true_eq] using ha
theorem pick_val (a n : Int) (ha : (Lit.int .u8 a).wf = true) (h1 : 0 < n) (h2 : n ≤ 1000) : wrap64 (1 + (wrap64 a).tmod n) = 1 + a % n := by
  have ha := byte_in ha
  have w1 : wrap64 a = a := by unfold wrap64; omega
  rw [w1, Int.tmod_eq_emod_of_nonneg ha.1]
  have b1 := Int.emod_nonneg a (by omega : n ≠ 0)
  have b2 := Int.emod_lt_of_pos a h1
  unfold wrap64
  omega
theorem pick_in (a n : Int) (ha : (Lit.int .u8 a).wf = true) (h1 : 0 < n) (h2 : n ≤ 1000) : 1 ≤ wrap64 (1 + (wrap64 a).tmod n) ∧ wrap64 (1 + (wrap64 a).tmod n) ≤ n := by
  rw [pick_val a n ha h1 h2]
  have b1 := Int.emod_nonneg a (by omega : n ≠ 0)
  have b2 := Int.emod_lt_of_pos a h1
  omega
/-- What two tests tell that are one. -/
theorem beqs {a b c d : Int} (h : a = b ↔ c = d) : ∃ t : Bool, (a == b) = t ∧ (c == d) = t := by
  refine ⟨(c == d), ?_, rfl⟩
  rw [Bool.eq_iff_iff]
  simpa using h
/-- Blocks behind a call that leaves what is. -/
theorem keep_block {w w1 : World} {o ob : Obj} {k : Nat} (hb : Below (w.alloc o).heap.size (w.alloc o) w1) (h : w.heap[k]? = some ob) : w1.heap[k]? = some ob := by
  have hk : k < w.heap.size := blk_lt h
  rw [hb.block k (by simp; omega), ((Below.refl w.heap.size w).alloc (Nat.le_refl _) o).block k hk]
  exact h
theorem new_block {w w1 : World} {cs : Array Value} {t : TypeId} (hb : Below (w.alloc (.cells cs t)).heap.size (w.alloc (.cells cs t)) w1) : w1.heap[w.heap.size]? = some (.cells cs t (0, 0)) := by
  rw [hb.block _ (by simp)]
  exact heap_alloc_new w _
/-- A term that is put again has the same answer. -/
theorem put_twice {L L1 : List Tm} {most a e : Int} {t : Tm} (h : putF L most t = (a, e, L1)) : putF L1 most t = (a, e, L1) := by
  rcases putF_cases L most t with ⟨hp, hm⟩ | ⟨j, hj, hp, hjt, hm, hn⟩ | ⟨hr, hp, hm, hn⟩ | ⟨hr, hp, hm, hn⟩
  all_goals
    have hh := hp.symm.trans h
    injection hh with a1 a2
    injection a2 with a2 a3
    subst a1 a2 a3
  · exact hp
  · exact hp
  · exact hp
  · exact put_old ⟨nameOf_snoc_same L t hn, by omega⟩ (may_mono (by simp) hm)
/-- Small numbers of 64 bits without a sign. -/
theorem wrap_u64 {x : Int} (h1 : 0 ≤ x) (h2 : x ≤ 1000000) : IntKind.u64.wrap x = x := by
  simp [IntKind.wrap, IntKind.signed, IntKind.bits]
  omega
theorem u64_small {x : Int} (h1 : 0 ≤ x) (h2 : x ≤ 1000000) : U64 x := by
  have := wf_wrap .u64 x
  rw [wrap_u64 h1 h2] at this
  exact this
theorem getT_of {L : List Tm} {x : Int} (h : 1 ≤ x ∧ x ≤ (L.length : Int)) : ∃ t, getT L x = (t, true) := by
  unfold getT
  rw [if_pos h]
  exact ⟨_, rfl⟩
theorem Sound.get {L : List Tm} (h : Sound L) {x : Int} {t : Tm} (hx : getT L x = (t, true)) : t.may L.length = true := by
  obtain ⟨h1, h2, h3⟩ := getT_in hx
  rw [h3]
  exact h _ (by omega)
theorem getT_zero (L : List Tm) : getT L 0 = (zeroT, false) := by
  unfold getT
  rw [if_neg (by omega)]
/-- A text's begin of so many bytes at most, as a letter: its facts ahead of a walk that cuts it. -/
theorem slice_facts (A : ByteArray) (k : Nat) : ∃ p : ByteArray, min (A.size : Int) k = p.size ∧ p.size ≤ A.size ∧ p.size ≤ k ∧ A.extract 0 p.size = p := by
  rcases Nat.le_total A.size k with h | h
  · exact ⟨A, by omega, Nat.le_refl _, h, by simp⟩
  · have e : (A.extract 0 k).size = k := by simp only [ByteArray.size_extract]; omega
    exact ⟨A.extract 0 k, by omega, by omega, by omega, by rw [e]⟩
/-- Terms of the document compared. -/
theorem equal_termR (u t : Tm) (w : World) : (Op.equalIn 10000 74 u.v t.v).run Try.prog w = .ok (eqB u t) w := by
  unfold Tm.v
  rw [run_equalIn_agg _ _ _ _ _ fields37 held37]
  have hf : (Try.prog.fieldsOf 74).toList = (match Try.prog.underlying 74 with | some (.struct fs) => fs.toList | _ => []) := by kernel_rfl
  rw [hf, Try.underlying74]
  have i3 := fun (w : World) (a b : Int) => run_equalIn_int (P := Try.prog) w 9998 3 .i64 .i64 a b Try.underlying3
  have i30 := fun (w : World) (a b : Int) => run_equalIn_int (P := Try.prog) w 9998 57 .u64 .u64 a b Try.underlying57
  have i9 := fun (w : World) (a b : ByteArray) => run_equalIn_string (P := Try.prog) w 9998 9 a b Try.underlying9
  simp only [Op.eqFields, eqB]
  cases h1 : (u.K == t.K)
  · go_simp
  cases h2 : (u.S.toList == t.S.toList)
  · go_simp
  cases h3 : (u.N == t.N)
  · go_simp
  cases h4 : (u.A == t.A)
  · go_simp
  cases h5 : (u.B == t.B)
  · go_simp
  cases h6 : (u.C == t.C)
  · go_simp
  go_simp
theorem neq_termR (u t : Tm) (w : World) : (binOp .neq 74 u.v t.v).run Try.prog w = .ok (.bool (!eqB u t)) w := by
  have h := equal_termR u t w
  unfold Tm.v at *
  rw [run_neq_struct, h]; rfl
section
variable {base g : Nat} {most : Int} {Q2 : (Nat → Prop) → List Tm → World → Prop} {L L2 : List Tm} {K : Nat → Prop} {w0 w : World}
/-- What lies in the document's store. -/
def AtR (g : Nat) (L : List Tm) (w : World) : Prop := ∃ a cap, w.cell? ⟨g, 0, none⟩ = some (.slice a L.length cap) ∧ L.length ≤ 1048576 ∧
  ∀ k, k < L.length → ∃ b, a = some ⟨b, 0, none⟩ ∧ ∀ j v, (L.getD k zeroT).cl[j]? = some v → w.cell? ⟨b, k * 6 + j, none⟩ = some v
theorem Pair.atR (h : Pair base (RSq base g most) Q2 L L2 K w0 w) : AtR g L w := by
  obtain ⟨F1, F2, ⟨sv, hr, _⟩, _⟩ := h
  obtain ⟨a, cap, hsv, c0, c1⟩ := hr.head
  refine ⟨a, cap, c0, hr.2.2.2.2, fun k hk => ?_⟩
  obtain ⟨b, cap', hsv', hrow⟩ := hr.row k hk
  rw [hsv] at hsv'
  injection hsv' with p1 p2 p3
  exact ⟨b, p1, hrow⟩
/-- A term there, and the cells where it lies. -/
theorem AtR.at {t : Tm} {x : Int} (h : AtR g L w) (hx : getT L x = (t, true)) : ∃ (j : Nat) (bb cap : Nat), x = (j : Int) + 1 ∧ j < L.length ∧ L.length ≤ 1048576 ∧ w.cell? ⟨g, 0, none⟩ = some (.slice (some ⟨bb, 0, none⟩) L.length cap) ∧ ∀ i v, t.cl[i]? = some v → w.cell? ⟨bb, j * 6 + i, none⟩ = some v := by
  obtain ⟨a, cap, c0, hl, hr⟩ := h
  obtain ⟨h1, h2, h3⟩ := getT_in hx
  obtain ⟨bb, rfl, hc⟩ := hr (x - 1).toNat (by omega)
  rw [← h3] at hc
  exact ⟨(x - 1).toNat, bb, cap, by omega, by omega, hl, c0, hc⟩
theorem AtR.below {w' : World} (h : AtR g L w) (hb : Below w.heap.size w w') : AtR g L w' := by
  obtain ⟨a, cap, c0, hl, hr⟩ := h
  refine ⟨a, cap, (hb.cell (block_lt_of_cell c0)).trans c0, hl, fun k hk => ?_⟩
  obtain ⟨b, h1, h2⟩ := hr k hk
  exact ⟨b, h1, fun j v hj => (hb.cell (block_lt_of_cell (h2 j v hj))).trans (h2 j v hj)⟩
end
end Go.Proofs.Ytlnpfeecaiecaaa
