/- Rows of parts: read wherever they lie, of the call's own, appended to. -/
import Derived.Test.YtjcgckhheegonaaFragD
namespace Go.Proofs.Ytjcgckhheegonaa
open Go.RowKit
set_option linter.unusedVariables false
set_option linter.unusedSimpArgs false
set_option maxRecDepth 20000

theorem infoP : (Try.prog.info? 35).map (fun i => (i.zero, i.size, i.bytes)) = some (some zeroF.v, 4, 40) := by kernel_rfl
theorem infoR : (Try.prog.info? 40).map (fun i => (i.zero, i.size, i.bytes)) = some (some zeroF.v, 4, 40) := by kernel_rfl
def cellsF : List Fr → List Value
  | [] => []
  | f :: r => f.cl.toList ++ cellsF r
theorem cl_len (f : Fr) : f.cl.toList.length = 4 := rfl
theorem cellsF_len (L : List Fr) : (cellsF L).length = L.length * 4 := by
  induction L with
  | nil => rfl
  | cons f r ih => rw [cellsF, List.length_append, cl_len, ih, List.length_cons]; omega
theorem cellsF_app (L M : List Fr) : cellsF (L ++ M) = cellsF L ++ cellsF M := by
  induction L with
  | nil => rfl
  | cons f r ih => rw [List.cons_append, cellsF, cellsF, ih, List.append_assoc]
theorem cellsF_at (L : List Fr) : ∀ (k j : Nat), j < 4 → k < L.length → (cellsF L)[k * 4 + j]? = (L.getD k zeroF).cl[j]? := by
  induction L with
  | nil => intro k j _ hk; simp at hk
  | cons f r ih =>
    intro k j hj hk
    rw [cellsF]
    cases k with
    | zero =>
      rw [List.getElem?_append_left (by rw [cl_len]; omega)]
      simp
    | succ k =>
      rw [List.getElem?_append_right (by rw [cl_len]; omega), cl_len, show (k + 1) * 4 + j - 4 = k * 4 + j by omega, ih k j hj (by simpa using hk)]
      simp
theorem cellsF_one (L : List Fr) : ∀ u ∈ cellsF L, u.oneCell' = true := by
  induction L with
  | nil => intro u hu; simp [cellsF] at hu
  | cons f r ih =>
    intro u hu
    rw [cellsF, List.mem_append] at hu
    rcases hu with q | q
    · simp only [Fr.cl, List.mem_cons, List.not_mem_nil, or_false] at q
      rcases q with rfl | rfl | rfl | rfl <;> rfl
    · exact ih u q

/-- A row of parts, wherever it lies. -/
def RowF (w : World) (a : Option Addr) (cap : Nat) (fs : List Fr) : Prop :=
  fs.length ≤ cap ∧ cap ≤ maxLen ∧ ∃ b off, ∀ j, j < fs.length → a = some ⟨b, off, none⟩ ∧ w.cell? ⟨b, off + j * 4, none⟩ = some (.int .u64 (fs.getD j zeroF).id) ∧ w.cell? ⟨b, off + j * 4 + 1, none⟩ = some (.int .i64 (fs.getD j zeroF).ix) ∧ w.cell? ⟨b, off + j * 4 + 2, none⟩ = some (.int .i64 (fs.getD j zeroF).ct) ∧ w.cell? ⟨b, off + j * 4 + 3, none⟩ = some (.string (fs.getD j zeroF).s)
theorem RowF.below {w w' : World} {a : Option Addr} {cap : Nat} {fs : List Fr} (h : RowF w a cap fs) (hb : Below w.heap.size w w') : RowF w' a cap fs := by
  obtain ⟨h1, h2, b, off, h3⟩ := h
  refine ⟨h1, h2, b, off, fun j hj => ?_⟩
  obtain ⟨e, c0, c1, c2, c3⟩ := h3 j hj
  exact ⟨e, (hb.cell (block_lt_of_cell c0)).trans c0, (hb.cell (block_lt_of_cell c1)).trans c1, (hb.cell (block_lt_of_cell c2)).trans c2, (hb.cell (block_lt_of_cell c3)).trans c3⟩
theorem RowF.none (w : World) : RowF w none 0 [] := ⟨Nat.le_refl _, Nat.zero_le _, 0, 0, fun j hj => absurd hj (Nat.not_lt_zero _)⟩
/-- A row of parts of the call's own. -/
def OwnF (t : TypeId) (base : Nat) (v : Value) (fs : List Fr) (w : World) : Prop := w.ownsRow base t 4 v fs.length (cellsF fs)
section
variable {t : TypeId} {base : Nat} {v : Value} {fs : List Fr} {w w' : World}
theorem OwnF.new (t : TypeId) (w : World) (hb : base ≤ w.heap.size) : OwnF t base (.slice (some ⟨w.heap.size, 0, none⟩) 0 0) [] (w.alloc (.cells #[] t)) :=
  World.ownsRow_made w #[] 0 hb (Nat.zero_le _) rfl
theorem OwnF.nil (t : TypeId) (base : Nat) (w : World) : OwnF t base (.slice Option.none 0 0) [] w := World.ownsRow_nil _ _ _ _
theorem OwnF.chg {S : Nat → Prop} (h : OwnF t base v fs w) (hc : Chg S w w') (hn : ∀ j, v.ownBlock = some j → ¬ S j) : OwnF t base v fs w' := hc.row h hn
theorem OwnF.below (h : OwnF t base v fs w) (hb : Below w.heap.size w w') : OwnF t base v fs w' := (Chg.of_below (S := fun _ => False) hb).row h (fun _ _ q => q)
theorem OwnF.at (h : OwnF t base v fs w) : ∃ a cap, v = .slice a fs.length cap ∧ RowF w a cap fs := by
  have h' : w.ownsRow base t 4 v fs.length (cellsF fs) := h
  rcases h'.2 with ⟨hv, hn⟩ | ⟨g, cap, cur, hv, hg, hh, h1, h2, h3, h4⟩
  · have e : fs = [] := List.eq_nil_of_length_eq_zero hn
    subst e
    exact ⟨Option.none, 0, hv, RowF.none w⟩
  · have key : ∀ j i u, j < fs.length → (fs.getD j zeroF).cl[i]? = some u → w.cell? ⟨g, j * 4 + i, none⟩ = some u := by
      intro j i u hj hu
      have hi : i < 4 := by
        rcases Nat.lt_or_ge i 4 with q | q
        · exact q
        · rw [Array.getElem?_eq_none (by simpa [Fr.cl] using q)] at hu; cases hu
      have := h'.cells (g := g) (by rw [hv]; rfl) (j * 4 + i) u (by rw [cellsF_at fs j i hi hj]; exact hu)
      rw [addr_add] at this
      exact this
    refine ⟨_, cap, hv, h1, h2, g, 0, fun j hj => ⟨rfl, ?_, ?_, ?_, ?_⟩⟩
    · rw [Nat.zero_add]; exact key j 0 _ hj rfl
    · rw [Nat.zero_add]; exact key j 1 _ hj rfl
    · rw [Nat.zero_add]; exact key j 2 _ hj rfl
    · rw [Nat.zero_add]; exact key j 3 _ hj rfl
theorem OwnF.form (h : OwnF t base v fs w) (hne : fs ≠ []) : ∃ g cap, v = .slice (some ⟨g, 0, Option.none⟩) fs.length cap := by
  have h' : w.ownsRow base t 4 v fs.length (cellsF fs) := h
  rcases h'.2 with ⟨hv, hn⟩ | ⟨g, cap, cur, hv, _⟩
  · exact absurd (List.eq_nil_of_length_eq_zero hn) hne
  · exact ⟨g, cap, hv⟩
end
/-- What an append leaves: the row, the world below the call's own blocks. -/
structure AppdF (t : TypeId) (base : Nat) (v v' : Value) (M : List Fr) (f : Fr) (w w' : World) : Prop where
  own : OwnF t base v' (M ++ [f]) w'
  low : Below base w w'
  size : w.heap.size ≤ w'.heap.size
  form : ∃ g cap, v' = .slice (some ⟨g, 0, none⟩) (M.length + 1) cap
  grown : w.grownBy w' v.ownBlock
theorem wpList_appF {ops : Array Oper} {rest : List Oper} {o : Oper} {a : Act} {Q : Exit → Act → World → Prop} (hgd : o.guard = none) (s xo : Operand) (t e : TypeId)
    (ht : Try.prog.underlying t = some (.slice e)) (hinf : (Try.prog.info? e).map (fun i => (i.zero, i.size, i.bytes)) = some (some zeroF.v, 4, 40))
    (ho : o.op = .call { callee := .builtin .append, args := #[s, xo], argTypes := #[t, t] })
    (base : Nat) (v : Value) (M : List Fr) (f : Fr) (w : World) (hs : a.eval s = v) (hown : OwnF e base v M w)
    (B c : Nat) (hx : a.eval xo = .slice (some ⟨B, 0, none⟩) 1 c) (hB : w.heap[B]? = some (.cells f.cl e (0, 0))) (hM : M.length < 100000) (hbase : base ≤ w.heap.size)
    (h : ∀ v' w', AppdF e base v v' M f w w' → wpList Try.prog ops Q rest (a.put o.dst v') w') : wpList Try.prog ops Q (o :: rest) a w := by
  obtain ⟨i0, hi0, hz0, hz1, hz2⟩ : ∃ i0, Try.prog.info? e = some i0 ∧ i0.zero = some zeroF.v ∧ i0.size = 4 ∧ i0.bytes = 40 := by
    cases hi : Try.prog.info? e with
    | none => rw [hi] at hinf; cases hinf
    | some i0 =>
      rw [hi] at hinf
      simp only [Option.map_some, Option.some.injEq, Prod.mk.injEq] at hinf
      exact ⟨i0, rfl, hinf.1, hinf.2.1, hinf.2.2⟩
  have hm : M.length + 1 ≤ maxLen := by unfold maxLen; omega
  refine wpList_append_lies w hgd s xo t ho base e i0 zeroF.v 4 40 ht hi0 hz0 hz1 hz2 rfl (by decide) v M.length (cellsF M) hs hown ⟨B, 0, none⟩ 1 c f.cl.toList hx rfl (World.news_of_block (cs := f.cl) (t := e) (fr := (0, 0)) hB) (fun u hu => cellsF_one [f] u (by rw [cellsF, cellsF, List.append_nil]; exact hu)) (by omega) hm (by omega) hbase w.heap.size rfl ?_
  intro g cap w' h1 h2 h3 h4
  refine h _ w' ⟨?_, (Chg.grown h2).below (fun j hj => (World.ownsRow.lt hown j hj.symm).1) hbase, h2.size, ⟨g, cap, rfl⟩, h2⟩
  unfold OwnF
  rw [show (M ++ [f]).length = M.length + 1 by simp, cellsF_app, show cellsF [f] = f.cl.toList by rw [cellsF, cellsF, List.append_nil]]
  exact h1
end Go.Proofs.Ytjcgckhheegonaa
