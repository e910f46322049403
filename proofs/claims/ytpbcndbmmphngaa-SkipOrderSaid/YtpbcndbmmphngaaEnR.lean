/- Entries: compared, in rows wherever they lie, in rows of the call's own, appended to. -/
import Derived.Test.YtpbcndbmmphngaaEnM
import Derived.Test.YtpbcndbmmphngaaRowB
import Derived.Laws.StructEq
import Derived.Deep.Cut
import Derived.Deep.CutRange
import Derived.Deep.LoopGhost
import Derived.BigQuiet
import Derived.Deep.Slices
import Derived.Deep.RegionHeld3
import Derived.Deep.RegionWith
namespace Go.Proofs.Ytpbcndbmmphngaa
open Go.RowKit
set_option linter.unusedVariables false
set_option linter.unusedSimpArgs false
set_option maxRecDepth 20000
def En.v (e : En) : Value := .agg #[.int .i64 e.ep, .int .i64 e.key, .int .u64 e.nx, .int .u64 e.bt]
def En.cl (e : En) : Array Value := #[.int .i64 e.ep, .int .i64 e.key, .int .u64 e.nx, .int .u64 e.bt]
theorem infoE : (Try.prog.info? 33).map (fun i => (i.zero, i.size, i.bytes)) = some (some zeroE.v, 4, 32) := by kernel_rfl
theorem infoQ : (Try.prog.info? 40).map (fun i => (i.zero, i.size, i.bytes)) = some (some zeroE.v, 4, 32) := by kernel_rfl
/-! Compared. -/
def eqE (e f : En) : Bool := e.ep == f.ep && (e.key == f.key && (e.nx == f.nx && e.bt == f.bt))
theorem eqE_self (e : En) : eqE e e = true := by simp [eqE]
theorem eqE_iff (e f : En) : eqE e f = decide (e = f) := by
  rw [Bool.eq_iff_iff, decide_eq_true_eq, En.ext_iff]
  simp [eqE]
theorem heldE : Try.prog.stoodInHeld 33 = false := by kernel_rfl
theorem fieldsE : Try.prog.underlying 33 = some (.struct (Try.prog.fieldsOf 33)) := by kernel_rfl
theorem guardE : Try.prog.eqGuardType Try.prog.depth 33 = false := by kernel_rfl
theorem heldQ : Try.prog.stoodInHeld 40 = false := by kernel_rfl
theorem fieldsQ : Try.prog.underlying 40 = some (.struct (Try.prog.fieldsOf 40)) := by kernel_rfl
theorem guardQ : Try.prog.eqGuardType Try.prog.depth 40 = false := by kernel_rfl
set_option maxHeartbeats 2000000 in
theorem eqInE (e f : En) (w : World) : (Op.equalIn 10000 33 e.v f.v).run Try.prog w = .ok (eqE e f) w := by
  unfold En.v
  rw [run_equalIn_agg _ _ _ _ _ fieldsE heldE]
  have hf : (Try.prog.fieldsOf 33).toList = (match Try.prog.underlying 33 with | some (.struct fs) => fs.toList | _ => []) := by kernel_rfl
  rw [hf, Try.underlying33]
  have i3 := fun (w : World) (a b : Int) => run_equalIn_int (P := Try.prog) w 9998 3 .i64 .i64 a b Try.underlying3
  have i30 := fun (w : World) (a b : Int) => run_equalIn_int (P := Try.prog) w 9998 29 .u64 .u64 a b Try.underlying29
  simp only [Op.eqFields, eqE]
  cases h0 : (e.ep == f.ep)
  · go_simp
  cases h1 : (e.key == f.key)
  · go_simp
  cases h2 : (e.nx == f.nx)
  · go_simp
  cases h3 : (e.bt == f.bt)
  · go_simp
  go_simp
set_option maxHeartbeats 2000000 in
theorem eqInQ (e f : En) (w : World) : (Op.equalIn 10000 40 e.v f.v).run Try.prog w = .ok (eqE e f) w := by
  unfold En.v
  rw [run_equalIn_agg _ _ _ _ _ fieldsQ heldQ]
  have hf : (Try.prog.fieldsOf 40).toList = (match Try.prog.underlying 40 with | some (.struct fs) => fs.toList | _ => []) := by kernel_rfl
  rw [hf, Try.underlying40]
  have i3 := fun (w : World) (a b : Int) => run_equalIn_int (P := Try.prog) w 9998 3 .i64 .i64 a b Try.underlying3
  have i30 := fun (w : World) (a b : Int) => run_equalIn_int (P := Try.prog) w 9998 29 .u64 .u64 a b Try.underlying29
  simp only [Op.eqFields, eqE]
  cases h0 : (e.ep == f.ep)
  · go_simp
  cases h1 : (e.key == f.key)
  · go_simp
  cases h2 : (e.nx == f.nx)
  · go_simp
  cases h3 : (e.bt == f.bt)
  · go_simp
  go_simp
theorem eqlE (e f : En) (w : World) : (binOp .eql 33 e.v f.v).run Try.prog w = .ok (.bool (eqE e f)) w := by
  have h := eqInE e f w
  unfold En.v at h ⊢
  rw [run_eql_struct, h]; rfl
theorem neqE (e f : En) (w : World) : (binOp .neq 33 e.v f.v).run Try.prog w = .ok (.bool (!eqE e f)) w := by
  have h := eqInE e f w
  unfold En.v at h ⊢
  rw [run_neq_struct, h]; rfl
theorem eqlQ (e f : En) (w : World) : (binOp .eql 40 e.v f.v).run Try.prog w = .ok (.bool (eqE e f)) w := by
  have h := eqInQ e f w
  unfold En.v at h ⊢
  rw [run_eql_struct, h]; rfl
theorem neqQ (e f : En) (w : World) : (binOp .neq 40 e.v f.v).run Try.prog w = .ok (.bool (!eqE e f)) w := by
  have h := eqInQ e f w
  unfold En.v at h ⊢
  rw [run_neq_struct, h]; rfl
/-! Rows. -/
def cellsE : List En → List Value
  | [] => []
  | f :: r => f.cl.toList ++ cellsE r
theorem clE_len (f : En) : f.cl.toList.length = 4 := rfl
theorem cellsE_len (L : List En) : (cellsE L).length = L.length * 4 := by
  induction L with
  | nil => rfl
  | cons f r ih => rw [cellsE, List.length_append, clE_len, ih, List.length_cons]; omega
theorem cellsE_app (L M : List En) : cellsE (L ++ M) = cellsE L ++ cellsE M := by
  induction L with
  | nil => rfl
  | cons f r ih => rw [List.cons_append, cellsE, cellsE, ih, List.append_assoc]
theorem cellsE_at (L : List En) : ∀ (k j : Nat), j < 4 → k < L.length → (cellsE L)[k * 4 + j]? = (L.getD k zeroE).cl[j]? := by
  induction L with
  | nil => intro k j _ hk; simp at hk
  | cons f r ih =>
    intro k j hj hk
    rw [cellsE]
    cases k with
    | zero =>
      rw [List.getElem?_append_left (by rw [clE_len]; omega)]
      simp
    | succ k =>
      rw [List.getElem?_append_right (by rw [clE_len]; omega), clE_len, show (k + 1) * 4 + j - 4 = k * 4 + j by omega, ih k j hj (by simpa using hk)]
      simp
theorem cellsE_one (L : List En) : ∀ u ∈ cellsE L, u.oneCell' = true := by
  induction L with
  | nil => intro u hu; simp [cellsE] at hu
  | cons f r ih =>
    intro u hu
    rw [cellsE, List.mem_append] at hu
    rcases hu with q | q
    · simp only [En.cl, List.mem_cons, List.not_mem_nil, or_false] at q
      rcases q with rfl | rfl | rfl | rfl <;> rfl
    · exact ih u q
/-- A row of entries, wherever it lies. -/
def RowE (w : World) (a : Option Addr) (cap : Nat) (fs : List En) : Prop :=
  fs.length ≤ cap ∧ cap ≤ maxLen ∧ ∃ b off, ∀ j, j < fs.length → a = some ⟨b, off, none⟩ ∧ w.cell? ⟨b, off + j * 4, none⟩ = some (.int .i64 (fs.getD j zeroE).ep) ∧ w.cell? ⟨b, off + j * 4 + 1, none⟩ = some (.int .i64 (fs.getD j zeroE).key) ∧ w.cell? ⟨b, off + j * 4 + 2, none⟩ = some (.int .u64 (fs.getD j zeroE).nx) ∧ w.cell? ⟨b, off + j * 4 + 3, none⟩ = some (.int .u64 (fs.getD j zeroE).bt)
theorem RowE.below {w w' : World} {a : Option Addr} {cap : Nat} {fs : List En} (h : RowE w a cap fs) (hb : Below w.heap.size w w') : RowE w' a cap fs := by
  obtain ⟨h1, h2, b, off, h3⟩ := h
  refine ⟨h1, h2, b, off, fun j hj => ?_⟩
  obtain ⟨e, c0, c1, c2, c3⟩ := h3 j hj
  exact ⟨e, (hb.cell (block_lt_of_cell c0)).trans c0, (hb.cell (block_lt_of_cell c1)).trans c1, (hb.cell (block_lt_of_cell c2)).trans c2, (hb.cell (block_lt_of_cell c3)).trans c3⟩
theorem RowE.none (w : World) : RowE w none 0 [] := ⟨Nat.le_refl _, Nat.zero_le _, 0, 0, fun j hj => absurd hj (Nat.not_lt_zero _)⟩
theorem RowE.len {w : World} {a : Option Addr} {cap : Nat} {fs : List En} (h : RowE w a cap fs) : fs.length ≤ 9223372036854775807 := by
  have := h.1
  have := h.2.1
  unfold maxLen at this
  omega
theorem erow_cell {w : World} {a : Option Addr} {cap : Nat} {fs : List En} (h : RowE w a cap fs) {j : Nat} (hj : j < fs.length) : ∃ b off, a = some ⟨b, off, Option.none⟩ ∧ w.cell? ⟨b, off + j * 4, Option.none⟩ = some (.int .i64 (fs.getD j zeroE).ep) ∧ w.cell? ⟨b, off + j * 4 + 1, Option.none⟩ = some (.int .i64 (fs.getD j zeroE).key) ∧ w.cell? ⟨b, off + j * 4 + 2, Option.none⟩ = some (.int .u64 (fs.getD j zeroE).nx) ∧ w.cell? ⟨b, off + j * 4 + 3, Option.none⟩ = some (.int .u64 (fs.getD j zeroE).bt) := by
  obtain ⟨_, _, b, off, h3⟩ := h
  obtain ⟨e, c⟩ := h3 j hj
  exact ⟨b, off, e, c⟩
/-- All but the first of a row, where there is one. -/
theorem RowE.tail {w : World} {b off cap : Nat} {e : En} {fs : List En} (h : RowE w (some ⟨b, off, Option.none⟩) cap (e :: fs)) : RowE w (some ⟨b, off + 4, Option.none⟩) (cap - 1) fs := by
  obtain ⟨h1, h2, b', off', h3⟩ := h
  simp only [List.length_cons] at h1
  refine ⟨by omega, by omega, b, off + 4, fun j hj => ?_⟩
  obtain ⟨q, c0, c1, c2, c3⟩ := h3 (j + 1) (by simpa using hj)
  injection q with q
  injection q with q1 q2
  subst q1 q2
  rw [show off + (j + 1) * 4 = off + 4 + j * 4 by omega] at c0 c1 c2 c3
  exact ⟨rfl, c0, c1, c2, c3⟩
/-- A row of entries of the call's own. -/
def OwnE (t : TypeId) (base : Nat) (v : Value) (fs : List En) (w : World) : Prop := w.ownsRow base t 4 v fs.length (cellsE fs)
section
variable {t : TypeId} {base : Nat} {v : Value} {fs : List En} {w w' : World}
theorem OwnE.new (t : TypeId) (w : World) (hb : base ≤ w.heap.size) : OwnE t base (.slice (some ⟨w.heap.size, 0, none⟩) 0 0) [] (w.alloc (.cells #[] t)) :=
  World.ownsRow_made w #[] 0 hb (Nat.zero_le _) rfl
theorem OwnE.nil (t : TypeId) (base : Nat) (w : World) : OwnE t base (.slice Option.none 0 0) [] w := World.ownsRow_nil _ _ _ _
theorem OwnE.chg {S : Nat → Prop} (h : OwnE t base v fs w) (hc : Chg S w w') (hn : ∀ j, v.ownBlock = some j → ¬ S j) : OwnE t base v fs w' := hc.row h hn
theorem OwnE.below (h : OwnE t base v fs w) (hb : Below w.heap.size w w') : OwnE t base v fs w' := (Chg.of_below (S := fun _ => False) hb).row h (fun _ _ q => q)
theorem OwnE.at (h : OwnE t base v fs w) : ∃ a cap, v = .slice a fs.length cap ∧ RowE w a cap fs := by
  have h' : w.ownsRow base t 4 v fs.length (cellsE fs) := h
  rcases h'.2 with ⟨hv, hn⟩ | ⟨g, cap, cur, hv, hg, hh, h1, h2, h3, h4⟩
  · have e : fs = [] := List.eq_nil_of_length_eq_zero hn
    subst e
    exact ⟨Option.none, 0, hv, RowE.none w⟩
  · have key : ∀ j i u, j < fs.length → (fs.getD j zeroE).cl[i]? = some u → w.cell? ⟨g, j * 4 + i, none⟩ = some u := by
      intro j i u hj hu
      have hi : i < 4 := by
        rcases Nat.lt_or_ge i 4 with q | q
        · exact q
        · rw [Array.getElem?_eq_none (by simpa [En.cl] using q)] at hu; cases hu
      have := h'.cells (g := g) (by rw [hv]; rfl) (j * 4 + i) u (by rw [cellsE_at fs j i hi hj]; exact hu)
      rw [addr_add] at this
      exact this
    refine ⟨_, cap, hv, h1, h2, g, 0, fun j hj => ⟨rfl, ?_, ?_, ?_, ?_⟩⟩
    · rw [Nat.zero_add]; exact key j 0 _ hj rfl
    · rw [Nat.zero_add]; exact key j 1 _ hj rfl
    · rw [Nat.zero_add]; exact key j 2 _ hj rfl
    · rw [Nat.zero_add]; exact key j 3 _ hj rfl
theorem OwnE.form (h : OwnE t base v fs w) (hne : fs ≠ []) : ∃ g cap, v = .slice (some ⟨g, 0, Option.none⟩) fs.length cap := by
  have h' : w.ownsRow base t 4 v fs.length (cellsE fs) := h
  rcases h'.2 with ⟨hv, hn⟩ | ⟨g, cap, cur, hv, _⟩
  · exact absurd (List.eq_nil_of_length_eq_zero hn) hne
  · exact ⟨g, cap, hv⟩
end
/-- A row of entries in new memory: nil, or in a block of its own, wherever in it. -/
def NewE (t : TypeId) (base : Nat) (v : Value) (es : List En) (w : World) : Prop :=
  (v = .slice none 0 0 ∧ es = []) ∨ ∃ g off cap cur, v = .slice (some ⟨g, off, none⟩) es.length cap ∧ base ≤ g ∧ w.heap[g]? = some (.cells cur t (0, 0)) ∧ es.length ≤ cap ∧ cap ≤ maxLen ∧ ∀ j i, j < es.length → i < 4 → cur[off + j * 4 + i]? = (es.getD j zeroE).cl[i]?
theorem NewE.mono {t : TypeId} {base base' : Nat} {v : Value} {es : List En} {w : World} (h : NewE t base v es w) (hb : base' ≤ base) : NewE t base' v es w := by
  rcases h with h | ⟨g, off, cap, cur, h1, h2, h3⟩
  · exact .inl h
  · exact .inr ⟨g, off, cap, cur, h1, by omega, h3⟩
theorem NewE.below {t : TypeId} {base : Nat} {v : Value} {es : List En} {w w' : World} (h : NewE t base v es w) (hb : Below w.heap.size w w') : NewE t base v es w' := by
  rcases h with h | ⟨g, off, cap, cur, h1, h2, h3, h4⟩
  · exact .inl h
  · exact .inr ⟨g, off, cap, cur, h1, h2, (hb.block _ (blk_lt h3)).trans h3, h4⟩
theorem NewE.at {t : TypeId} {base : Nat} {v : Value} {es : List En} {w : World} (h : NewE t base v es w) : ∃ a cap, v = .slice a es.length cap ∧ RowE w a cap es := by
  rcases h with ⟨h1, h2⟩ | ⟨g, off, cap, cur, h1, h2, h3, h4, h5, h6⟩
  · subst h2
    exact ⟨none, 0, h1, RowE.none w⟩
  · refine ⟨_, cap, h1, h4, h5, g, off, fun j hj => ⟨rfl, ?_, ?_, ?_, ?_⟩⟩
    · rw [cell_of_row w g _ cur t _ h3]; exact h6 j 0 hj (by omega)
    · rw [cell_of_row w g _ cur t _ h3]; exact h6 j 1 hj (by omega)
    · rw [cell_of_row w g _ cur t _ h3]; exact h6 j 2 hj (by omega)
    · rw [cell_of_row w g _ cur t _ h3]; exact h6 j 3 hj (by omega)
theorem OwnE.newE {t : TypeId} {base : Nat} {v : Value} {es : List En} {w : World} (h : OwnE t base v es w) : NewE t base v es w := by
  have h' : w.ownsRow base t 4 v es.length (cellsE es) := h
  rcases h'.2 with ⟨hv, hn⟩ | ⟨g, cap, cur, hv, hg, hh, h1, h2, h3, h4⟩
  · exact .inl ⟨hv, List.eq_nil_of_length_eq_zero hn⟩
  · refine .inr ⟨g, 0, cap, cur, hv, hg, hh, h1, h2, fun j i hj hi => ?_⟩
    rw [← cellsE_at es j i hi hj, ← h4, Nat.zero_add, List.getElem?_take_of_lt (by omega), Array.getElem?_toList]
theorem NewE.tail {t : TypeId} {base g off n cap : Nat} {e : En} {es : List En} {w : World} (h : NewE t base (.slice (some ⟨g, off, none⟩) n cap) (e :: es) w) : NewE t base (.slice (some ⟨g, off + 4, none⟩) es.length (cap - 1)) es w := by
  rcases h with ⟨h1, h2⟩ | ⟨g', off', cap', cur, h1, h2, h3, h4, h5, h6⟩
  · cases h1
  · injection h1 with q1 q2 q3
    injection q1 with q1
    injection q1 with q4 q5
    subst q3 q4 q5
    simp only [List.length_cons] at h4
    refine .inr ⟨g, off + 4, cap - 1, cur, rfl, h2, h3, by omega, by omega, fun j i hj hi => ?_⟩
    have := h6 (j + 1) i (by simpa using hj) hi
    rw [show off + (j + 1) * 4 + i = off + 4 + j * 4 + i by omega] at this
    simpa using this
/-- What an append leaves: the row, the world below the call's own blocks. -/
structure AppdE (t : TypeId) (base : Nat) (v v' : Value) (M : List En) (w w' : World) : Prop where
  own : OwnE t base v' M w'
  low : Below base w w'
  size : w.heap.size ≤ w'.heap.size
  form : ∃ g cap, v' = .slice (some ⟨g, 0, none⟩) M.length cap
  grown : w.grownBy w' v.ownBlock
theorem info4 {e : TypeId} (hinf : (Try.prog.info? e).map (fun i => (i.zero, i.size, i.bytes)) = some (some zeroE.v, 4, 32)) : ∃ i0, Try.prog.info? e = some i0 ∧ i0.zero = some zeroE.v ∧ i0.size = 4 ∧ i0.bytes = 32 := by
  cases hi : Try.prog.info? e with
  | none => rw [hi] at hinf; cases hinf
  | some i0 =>
    rw [hi] at hinf
    simp only [Option.map_some, Option.some.injEq, Prod.mk.injEq] at hinf
    exact ⟨i0, rfl, hinf.1, hinf.2.1, hinf.2.2⟩
/-- Entries that lie in a row are appended to one of the call's own. -/
theorem wpList_appE {ops : Array Oper} {rest : List Oper} {o : Oper} {a : Act} {Q : Exit → Act → World → Prop} (hgd : o.guard = none) (s xo : Operand) (t e : TypeId)
    (ht : Try.prog.underlying t = some (.slice e)) (hinf : (Try.prog.info? e).map (fun i => (i.zero, i.size, i.bytes)) = some (some zeroE.v, 4, 32))
    (ho : o.op = .call { callee := .builtin .append, args := #[s, xo], argTypes := #[t, t] })
    (base : Nat) (v : Value) (M N : List En) (w : World) (hs : a.eval s = v) (hown : OwnE e base v M w)
    (B off n c : Nat) (hn : N.length = n) (hx : a.eval xo = .slice (some ⟨B, off, none⟩) n c) (hB : ∀ j u, (cellsE N)[j]? = some u → w.cell? ⟨B, off + j, none⟩ = some u) (hn0 : 0 < n) (hM : M.length + n < 100000) (hbase : base ≤ w.heap.size)
    (h : ∀ v' w', AppdE e base v v' (M ++ N) w w' → wpList Try.prog ops Q rest (a.put o.dst v') w') : wpList Try.prog ops Q (o :: rest) a w := by
  obtain ⟨i0, hi0, hz0, hz1, hz2⟩ := info4 hinf
  have hm : M.length + n ≤ maxLen := by unfold maxLen; omega
  have hadd : ∀ j, (⟨B, off, none⟩ : Addr).add j = ⟨B, off + j, none⟩ := fun j => by unfold Addr.add; split <;> simp_all
  refine wpList_append_lies w hgd s xo t ho base e i0 zeroE.v 4 32 ht hi0 hz0 hz1 hz2 rfl (by decide) v M.length (cellsE M) hs hown ⟨B, off, none⟩ n c (cellsE N) hx (by rw [cellsE_len, hn]) (fun j u hu => by rw [hadd]; exact hB j u hu) (cellsE_one N) hn0 hm (by omega) hbase w.heap.size rfl ?_
  intro g cap w' h1 h2 h3 h4
  have hl : (M ++ N).length = M.length + n := by simp [hn]
  refine h _ w' ⟨?_, (Chg.grown h2).below (fun j hj => (World.ownsRow.lt hown j hj.symm).1) hbase, h2.size, ⟨g, cap, by rw [hl]⟩, h2⟩
  unfold OwnE
  rw [hl, cellsE_app]
  exact h1
/-- The same, where there may be none to append, onto a row that has some. -/
theorem wpList_appE0 {ops : Array Oper} {rest : List Oper} {o : Oper} {a : Act} {Q : Exit → Act → World → Prop} (hgd : o.guard = none) (s xo : Operand) (t e : TypeId)
    (ht : Try.prog.underlying t = some (.slice e)) (hinf : (Try.prog.info? e).map (fun i => (i.zero, i.size, i.bytes)) = some (some zeroE.v, 4, 32))
    (ho : o.op = .call { callee := .builtin .append, args := #[s, xo], argTypes := #[t, t] })
    (base : Nat) (v : Value) (M N : List En) (w : World) (hs : a.eval s = v) (hown : OwnE e base v M w)
    (B off n c : Nat) (hn : N.length = n) (hx : a.eval xo = .slice (some ⟨B, off, none⟩) n c) (hB : ∀ j u, (cellsE N)[j]? = some u → w.cell? ⟨B, off + j, none⟩ = some u) (hne : M ≠ []) (hM : M.length + n < 100000) (hbase : base ≤ w.heap.size)
    (h : ∀ v' w', AppdE e base v v' (M ++ N) w w' → wpList Try.prog ops Q rest (a.put o.dst v') w') : wpList Try.prog ops Q (o :: rest) a w := by
  obtain ⟨i0, hi0, hz0, hz1, hz2⟩ := info4 hinf
  have hm : M.length + n ≤ maxLen := by unfold maxLen; omega
  have hadd : ∀ j, (⟨B, off, none⟩ : Addr).add j = ⟨B, off + j, none⟩ := fun j => by unfold Addr.add; split <;> simp_all
  refine wpList_append_own w hgd s xo t ho base e i0 zeroE.v 4 32 ht hi0 hz0 hz1 hz2 rfl (by decide) v M.length (cellsE M) hs hown ⟨B, off, none⟩ n c (cellsE N) hx (by rw [cellsE_len, hn]) (fun j u hu => by rw [hadd]; exact hB j u hu) (cellsE_one N) hm (by omega) hbase ?_
  intro v' w' h1 h2 h3
  have hl : (M ++ N).length = M.length + n := by simp [hn]
  have hO : OwnE e base v' (M ++ N) w' := by
    unfold OwnE
    rw [hl, cellsE_app]
    exact h1
  exact h _ w' ⟨hO, (Chg.grown h2).below (fun j hj => (World.ownsRow.lt hown j hj.symm).1) hbase, h2.size, hO.form (by simp [hne]), h2⟩
/-- The cells of a literal of one entry. -/
theorem news_one (w : World) (f : En) (e : TypeId) : ∀ j u, (cellsE [f])[j]? = some u → (w.alloc (.cells f.cl e)).cell? ⟨w.heap.size, 0 + j, none⟩ = some u := fun j u hu => by
  have h := World.news_of_block (cs := f.cl) (t := e) (fr := (0, 0)) (heap_alloc_new w (.cells f.cl e)) j u (by rw [cellsE, cellsE, List.append_nil] at hu; exact hu)
  rw [addr_add] at h
  rw [Nat.zero_add]
  exact h
/-- The cells of a row, from its k-th entry on. -/
theorem news_row {w : World} {b off cap : Nat} {fs : List En} (h : RowE w (some ⟨b, off, none⟩) cap fs) (k : Nat) : ∀ j u, (cellsE (fs.drop k))[j]? = some u → w.cell? ⟨b, off + k * 4 + j, none⟩ = some u := fun j u hu => by
  obtain ⟨q, r, hq, hr⟩ : ∃ q r, j = q * 4 + r ∧ r < 4 := ⟨j / 4, j % 4, by omega, by omega⟩
  have hlt : j < (cellsE (fs.drop k)).length := by
    rcases Nat.lt_or_ge j (cellsE (fs.drop k)).length with p | p
    · exact p
    · rw [List.getElem?_eq_none p] at hu; cases hu
  rw [cellsE_len, List.length_drop] at hlt
  have hk : k + q < fs.length := by omega
  obtain ⟨b', off', e, c0, c1, c2, c3⟩ := erow_cell h hk
  injection e with e
  injection e with e1 e2
  subst e1 e2
  rw [hq, cellsE_at _ q r hr (by rw [List.length_drop]; omega)] at hu
  have hg : (fs.drop k).getD q zeroE = fs.getD (k + q) zeroE := by simp [List.getD]
  rw [hg] at hu
  have hoff : off + k * 4 + j = off + (k + q) * 4 + r := by rw [hq]; omega
  rw [hoff]
  have hr4 : r = 0 ∨ r = 1 ∨ r = 2 ∨ r = 3 := by omega
  rcases hr4 with e | e | e | e <;> subst e <;> simp only [En.cl] at hu <;> simp at hu <;> subst hu
  · exact c0
  · exact c1
  · exact c2
  · exact c3
theorem cell1 {W : World} {B : Nat} {y : Value} {t : TypeId} (h : W.heap[B]? = some (.cells #[y] t (0, 0))) : W.cell? ⟨B, 0, none⟩ = some y ∧ W.frozen? ⟨B, 0, none⟩ = false := by
  refine ⟨?_, ?_⟩
  · simp [World.cell?, h]
  · simp [World.frozen?, h]
/-! A box of four cells. -/
theorem cells4 {u : World} {B : Nat} {x y z q : Value} {T : TypeId} (h : u.heap[B]? = some (.cells #[x, y, z, q] T (0, 0))) : u.cell? ⟨B, 0, none⟩ = some x ∧ u.cell? ⟨B, 1, none⟩ = some y ∧ u.cell? ⟨B, 2, none⟩ = some z ∧ u.cell? ⟨B, 3, none⟩ = some q ∧ u.frozen? ⟨B, 0, none⟩ = false ∧ u.frozen? ⟨B, 1, none⟩ = false ∧ u.frozen? ⟨B, 2, none⟩ = false ∧ u.frozen? ⟨B, 3, none⟩ = false := by
  refine ⟨?_, ?_, ?_, ?_, ?_, ?_, ?_, ?_⟩
  all_goals first | simp [World.cell?, h] | simp [World.frozen?, h]
theorem four_set {u : World} {B : Nat} {x y z q a b c d : Value} {T : TypeId} (h : u.heap[B]? = some (.cells #[x, y, z, q] T (0, 0))) : ((((u.setCell ⟨B, 0, none⟩ a).setCell ⟨B, 1, none⟩ b).setCell ⟨B, 2, none⟩ c).setCell ⟨B, 3, none⟩ d).heap[B]? = some (.cells #[a, b, c, d] T (0, 0)) := by
  have h1 := heap_setCell_same u B 0 _ _ a h
  have h2 := heap_setCell_same _ B 1 _ _ b h1
  have h3 := heap_setCell_same _ B 2 _ _ c h2
  have h4 := heap_setCell_same _ B 3 _ _ d h3
  simpa using h4
theorem four_other {u : World} {B k : Nat} {a b c d : Value} (h : k ≠ B) : ((((u.setCell ⟨B, 0, none⟩ a).setCell ⟨B, 1, none⟩ b).setCell ⟨B, 2, none⟩ c).setCell ⟨B, 3, none⟩ d).heap[k]? = u.heap[k]? := by
  rw [heap_setCell_other _ _ _ _ (by exact h), heap_setCell_other _ _ _ _ (by exact h), heap_setCell_other _ _ _ _ (by exact h), heap_setCell_other _ _ _ _ (by exact h)]
end Go.Proofs.Ytpbcndbmmphngaa
