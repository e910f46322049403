/- Cells of a row of parts set anew. -/
import Derived.Test.YtjcgckhheegonaaFragQ
namespace Go.Proofs.Ytjcgckhheegonaa
open Go.RowKit
set_option linter.unusedVariables false
set_option linter.unusedSimpArgs false
set_option maxRecDepth 20000
theorem cellsF_set0 (L : List Fr) : ∀ (i : Nat) (x : Int), i < L.length → cellsF (L.set i { L.getD i zeroF with id := x }) = (cellsF L).set (i * 4) (.int .u64 x) := by
  induction L with
  | nil => intro i c h; simp at h
  | cons f r ih =>
    intro i c h
    cases i with
    | zero => rfl
    | succ i =>
      rw [List.set_cons_succ, cellsF, cellsF, List.set_append_right _ _ (by rw [cl_len]; omega), cl_len, show (i + 1) * 4 - 4 = i * 4 by omega, ← ih i c (by simpa using h)]
      simp
theorem cellsF_set1 (L : List Fr) : ∀ (i : Nat) (x : Int), i < L.length → cellsF (L.set i { L.getD i zeroF with ix := x }) = (cellsF L).set (i * 4 + 1) (.int .i64 x) := by
  induction L with
  | nil => intro i c h; simp at h
  | cons f r ih =>
    intro i c h
    cases i with
    | zero => rfl
    | succ i =>
      rw [List.set_cons_succ, cellsF, cellsF, List.set_append_right _ _ (by rw [cl_len]; omega), cl_len, show (i + 1) * 4 + 1 - 4 = i * 4 + 1 by omega, ← ih i c (by simpa using h)]
      simp
theorem cellsF_set3 (L : List Fr) : ∀ (i : Nat) (x : ByteArray), i < L.length → cellsF (L.set i { L.getD i zeroF with s := x }) = (cellsF L).set (i * 4 + 3) (.string x) := by
  induction L with
  | nil => intro i c h; simp at h
  | cons f r ih =>
    intro i c h
    cases i with
    | zero => rfl
    | succ i =>
      rw [List.set_cons_succ, cellsF, cellsF, List.set_append_right _ _ (by rw [cl_len]; omega), cl_len, show (i + 1) * 4 + 3 - 4 = i * 4 + 3 by omega, ← ih i c (by simpa using h)]
      simp
section
variable {t : TypeId} {base g n cap i : Nat} {fs : List Fr} {w : World}
theorem OwnF.block (h : OwnF t base (.slice (some ⟨g, 0, none⟩) n cap) fs w) : ∃ cur, w.heap[g]? = some (.cells cur t (0, 0)) := by
  have h' : w.ownsRow base t 4 (.slice (some ⟨g, 0, none⟩) n cap) fs.length (cellsF fs) := h
  rcases h'.2 with ⟨hv, _⟩ | ⟨g', cap', cur, hv, hg, hh, _⟩
  · cases hv
  · injection hv with f1 f2 f3
    injection f1 with f1
    injection f1 with f1
    subst f1
    exact ⟨cur, hh⟩
theorem OwnF.four (h : OwnF t base (.slice (some ⟨g, 0, none⟩) n cap) fs w) {i : Nat} (hi : i < fs.length) : (w.cell? ⟨g, i * 4, none⟩ = some (.int .u64 (fs.getD i zeroF).id) ∧ w.cell? ⟨g, i * 4 + 1, none⟩ = some (.int .i64 (fs.getD i zeroF).ix) ∧ w.cell? ⟨g, i * 4 + 2, none⟩ = some (.int .i64 (fs.getD i zeroF).ct) ∧ w.cell? ⟨g, i * 4 + 3, none⟩ = some (.string (fs.getD i zeroF).s)) ∧ w.frozen? ⟨g, i * 4, none⟩ = false ∧ w.frozen? ⟨g, i * 4 + 1, none⟩ = false ∧ w.frozen? ⟨g, i * 4 + 2, none⟩ = false ∧ w.frozen? ⟨g, i * 4 + 3, none⟩ = false := by
  have h' : w.ownsRow base t 4 (.slice (some ⟨g, 0, none⟩) n cap) fs.length (cellsF fs) := h
  obtain ⟨cur, hh⟩ := h.block
  have key : ∀ c u, c < 4 → (fs.getD i zeroF).cl[c]? = some u → w.cell? ⟨g, i * 4 + c, none⟩ = some u := by
    intro c u hc hu
    have := h'.cells (g := g) rfl (i * 4 + c) u (by rw [cellsF_at fs i c hc hi]; exact hu)
    rw [addr_add] at this
    exact this
  exact ⟨⟨key 0 _ (by omega) rfl, key 1 _ (by omega) rfl, key 2 _ (by omega) rfl, key 3 _ (by omega) rfl⟩, frz_of_row _ hh, frz_of_row _ hh, frz_of_row _ hh, frz_of_row _ hh⟩
theorem OwnF.setId (h : OwnF t base (.slice (some ⟨g, 0, none⟩) n cap) fs w) {i : Nat} (hi : i < fs.length) (x : Int) : OwnF t base (.slice (some ⟨g, 0, none⟩) n cap) (fs.set i { fs.getD i zeroF with id := x }) (w.setCell ⟨g, i * 4, none⟩ (.int .u64 x)) := h.setAt _ _ (cellsF_set0 fs i x hi) (by rw [List.length_set])
theorem OwnF.setIx (h : OwnF t base (.slice (some ⟨g, 0, none⟩) n cap) fs w) {i : Nat} (hi : i < fs.length) (x : Int) : OwnF t base (.slice (some ⟨g, 0, none⟩) n cap) (fs.set i { fs.getD i zeroF with ix := x }) (w.setCell ⟨g, i * 4 + 1, none⟩ (.int .i64 x)) := h.setAt _ _ (cellsF_set1 fs i x hi) (by rw [List.length_set])
theorem OwnF.setCt (h : OwnF t base (.slice (some ⟨g, 0, none⟩) n cap) fs w) {i : Nat} (hi : i < fs.length) (x : Int) : OwnF t base (.slice (some ⟨g, 0, none⟩) n cap) (fs.set i { fs.getD i zeroF with ct := x }) (w.setCell ⟨g, i * 4 + 2, none⟩ (.int .i64 x)) := h.setAt _ _ (cellsF_setCt fs i x hi) (by rw [List.length_set])
theorem OwnF.setS (h : OwnF t base (.slice (some ⟨g, 0, none⟩) n cap) fs w) {i : Nat} (hi : i < fs.length) (x : ByteArray) : OwnF t base (.slice (some ⟨g, 0, none⟩) n cap) (fs.set i { fs.getD i zeroF with s := x }) (w.setCell ⟨g, i * 4 + 3, none⟩ (.string x)) := h.setAt _ _ (cellsF_set3 fs i x hi) (by rw [List.length_set])
theorem OwnF.set0E {f : Fr} (h : OwnF t base (.slice (some ⟨g, 0, none⟩) n cap) (fs.set i f) w) (hi : i < fs.length) (x : Int) : OwnF t base (.slice (some ⟨g, 0, none⟩) n cap) (fs.set i ⟨x, f.ix, f.ct, f.s⟩) (w.setCell ⟨g, i * 4, none⟩ (.int .u64 x)) := by
  have d := h.setId (i := i) (by rw [List.length_set]; exact hi) x
  have e : (fs.set i f).getD i zeroF = f := by rw [getD_set _ _ _ _ hi, if_pos rfl]
  rw [e, List.set_set] at d
  exact d
theorem OwnF.set1E {f : Fr} (h : OwnF t base (.slice (some ⟨g, 0, none⟩) n cap) (fs.set i f) w) (hi : i < fs.length) (x : Int) : OwnF t base (.slice (some ⟨g, 0, none⟩) n cap) (fs.set i ⟨f.id, x, f.ct, f.s⟩) (w.setCell ⟨g, i * 4 + 1, none⟩ (.int .i64 x)) := by
  have d := h.setIx (i := i) (by rw [List.length_set]; exact hi) x
  have e : (fs.set i f).getD i zeroF = f := by rw [getD_set _ _ _ _ hi, if_pos rfl]
  rw [e, List.set_set] at d
  exact d
theorem OwnF.set2E {f : Fr} (h : OwnF t base (.slice (some ⟨g, 0, none⟩) n cap) (fs.set i f) w) (hi : i < fs.length) (x : Int) : OwnF t base (.slice (some ⟨g, 0, none⟩) n cap) (fs.set i ⟨f.id, f.ix, x, f.s⟩) (w.setCell ⟨g, i * 4 + 2, none⟩ (.int .i64 x)) := by
  have d := h.setCt (i := i) (by rw [List.length_set]; exact hi) x
  have e : (fs.set i f).getD i zeroF = f := by rw [getD_set _ _ _ _ hi, if_pos rfl]
  rw [e, List.set_set] at d
  exact d
theorem OwnF.set3E {f : Fr} (h : OwnF t base (.slice (some ⟨g, 0, none⟩) n cap) (fs.set i f) w) (hi : i < fs.length) (x : ByteArray) : OwnF t base (.slice (some ⟨g, 0, none⟩) n cap) (fs.set i ⟨f.id, f.ix, f.ct, x⟩) (w.setCell ⟨g, i * 4 + 3, none⟩ (.string x)) := by
  have d := h.setS (i := i) (by rw [List.length_set]; exact hi) x
  have e : (fs.set i f).getD i zeroF = f := by rw [getD_set _ _ _ _ hi, if_pos rfl]
  rw [e, List.set_set] at d
  exact d
/-- A whole part set anew, cell by cell. -/
theorem OwnF.setF (h : OwnF t base (.slice (some ⟨g, 0, none⟩) n cap) fs w) (hi : i < fs.length) (f : Fr) : OwnF t base (.slice (some ⟨g, 0, none⟩) n cap) (fs.set i f) ((((w.setCell ⟨g, i * 4, none⟩ (.int .u64 f.id)).setCell ⟨g, i * 4 + 1, none⟩ (.int .i64 f.ix)).setCell ⟨g, i * 4 + 2, none⟩ (.int .i64 f.ct)).setCell ⟨g, i * 4 + 3, none⟩ (.string f.s)) := by
  have h0 : OwnF t base (.slice (some ⟨g, 0, none⟩) n cap) (fs.set i (fs.getD i zeroF)) w := by rw [set_self _ _ hi]; exact h
  exact (((h0.set0E hi f.id).set1E hi f.ix).set2E hi f.ct).set3E hi f.s
theorem OwnF.rowOf (h : OwnF t base (.slice (some ⟨g, 0, none⟩) n cap) fs w) : n = fs.length ∧ RowF w (some ⟨g, 0, none⟩) cap fs := by
  obtain ⟨a', c', e, hr⟩ := h.at
  injection e with e1 e2 e3
  subst e1; subst e3
  exact ⟨e2, hr⟩
end
end Go.Proofs.Ytjcgckhheegonaa
