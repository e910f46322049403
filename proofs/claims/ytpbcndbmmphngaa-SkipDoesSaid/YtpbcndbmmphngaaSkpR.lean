/- Entries: a row at the start of a block of its own: stored into, copied over, appended to, cleared. -/
import Derived.Test.YtpbcndbmmphngaaEnP
import Derived.Shelf.Spec.SlicesInsertGrow
import Derived.Laws.CopyRow
namespace Go.Proofs.Ytpbcndbmmphngaa
open Go.RowKit
set_option linter.unusedVariables false
set_option linter.unusedSimpArgs false
set_option maxRecDepth 20000
theorem sizeE : ∃ i0, Try.prog.info? 33 = some i0 ∧ i0.zero = some zeroE.v ∧ i0.size = 4 ∧ i0.bytes = 32 := info4 infoE
theorem addE (g o j : Nat) : (⟨g, o, none⟩ : Addr).add j = ⟨g, o + j, none⟩ := by unfold Addr.add; split <;> simp_all
/-- A row of entries at the start of a block that has room for so many. -/
def RowG (g cap : Nat) (L : List En) (w : World) : Prop :=
  ∃ cur, w.heap[g]? = some (.cells cur 33 (0, 0)) ∧ L.length ≤ cap ∧ cap ≤ maxLen ∧ cur.size = cap * 4 ∧ cur.toList.take (L.length * 4) = cellsE L
section
variable {g cap base : Nat} {L : List En} {w w' : World}
theorem RowG.own (h : RowG g cap L w) (hb : base ≤ g) : OwnE 33 base (.slice (some ⟨g, 0, none⟩) L.length cap) L w := by
  obtain ⟨cur, h1, h2, h3, h4, h5⟩ := h
  exact ⟨cellsE_len L, .inr ⟨g, cap, cur, rfl, hb, h1, h2, h3, h4, h5⟩⟩
theorem OwnE.rowG {v : Value} (h : OwnE 33 base v L w) : (v = .slice none 0 0 ∧ L = []) ∨ ∃ g cap, v = .slice (some ⟨g, 0, none⟩) L.length cap ∧ base ≤ g ∧ RowG g cap L w := by
  have h' : w.ownsRow base 33 4 v L.length (cellsE L) := h
  rcases h'.2 with ⟨hv, hn⟩ | ⟨g, cap, cur, hv, hg, h1, h2, h3, h4, h5⟩
  · exact .inl ⟨hv, List.eq_nil_of_length_eq_zero hn⟩
  · exact .inr ⟨g, cap, hv, hg, cur, h1, h2, h3, h4, h5⟩
theorem RowG.newE (h : RowG g cap L w) (hb : base ≤ g) : NewE 33 base (.slice (some ⟨g, 0, none⟩) L.length cap) L w := (h.own hb).newE
theorem RowG.below (h : RowG g cap L w) (hb : Below w.heap.size w w') : RowG g cap L w' := by
  obtain ⟨cur, h1, h2⟩ := h
  exact ⟨cur, (hb.block _ (blk_lt h1)).trans h1, h2⟩
theorem RowG.lt (h : RowG g cap L w) : g < w.heap.size := by
  obtain ⟨cur, h1, h2⟩ := h
  exact blk_lt h1
theorem RowG.len (h : RowG g cap L w) : L.length ≤ cap ∧ cap ≤ maxLen := by
  obtain ⟨cur, h1, h2, h3, _⟩ := h
  exact ⟨h2, h3⟩
theorem RowG.row (h : RowG g cap L w) : RowE w (some ⟨g, 0, none⟩) cap L := by
  obtain ⟨a, c, e, hr⟩ := (h.newE (Nat.zero_le g)).at
  injection e with e1 e2 e3
  subst e1 e3
  exact hr
theorem RowG.cell (h : RowG g cap L w) (k : Nat) (u : Value) (hu : (cellsE L)[k]? = some u) : w.cell? ⟨g, k, none⟩ = some u := by
  obtain ⟨cur, h1, h2, h3, h4, h5⟩ := h
  rw [cell_of_row w g _ cur _ _ h1, ← hu, ← h5, List.getElem?_take_of_lt, Array.getElem?_toList]
  have hk : k < (cellsE L).length := by
    rcases Nat.lt_or_ge k (cellsE L).length with q | q
    · exact q
    · rw [List.getElem?_eq_none q] at hu; cases hu
  rwa [cellsE_len] at hk
theorem RowG.free (h : RowG g cap L w) (k : Nat) : w.frozen? ⟨g, k, none⟩ = false := by
  obtain ⟨cur, h1, _⟩ := h
  simp [World.frozen?, h1]
theorem RowG.shape (h : RowG g cap L w) : w.shape? g = some (33, cap * 4) := by
  obtain ⟨cur, h1, h2, h3, h4, h5⟩ := h
  simp [World.shape?, h1, h4]
theorem RowG.four (h : RowG g cap L w) {j : Nat} (hj : j < L.length) : w.cell? ⟨g, j * 4, none⟩ = some (.int .i64 (L.getD j zeroE).ep) ∧ w.cell? ⟨g, j * 4 + 1, none⟩ = some (.int .i64 (L.getD j zeroE).key) ∧ w.cell? ⟨g, j * 4 + 2, none⟩ = some (.int .u64 (L.getD j zeroE).nx) ∧ w.cell? ⟨g, j * 4 + 3, none⟩ = some (.int .u64 (L.getD j zeroE).bt) := by
  refine ⟨h.cell _ _ ?_, h.cell _ _ ?_, h.cell _ _ ?_, h.cell _ _ ?_⟩
  · exact cellsE_at L j 0 (by omega) hj
  · exact cellsE_at L j 1 (by omega) hj
  · exact cellsE_at L j 2 (by omega) hj
  · exact cellsE_at L j 3 (by omega) hj
theorem RowG.take (h : RowG g cap L w) (k : Nat) : RowG g cap (L.take k) w := by
  obtain ⟨cur, h1, h2, h3, h4, h5⟩ := h
  refine ⟨cur, h1, by rw [List.length_take]; omega, h3, h4, ?_⟩
  have e : cellsE L = cellsE (L.take k) ++ cellsE (L.drop k) := by rw [← cellsE_app, List.take_append_drop]
  have e2 : (cellsE L).take ((L.take k).length * 4) = cellsE (L.take k) := by
    rw [e, List.take_left']
    rw [cellsE_len]
  rw [← e2, ← h5, List.take_take]
  congr 1
  rw [List.length_take]
  omega
/-- So many entries are laid over a row, from one place on, as far as there is room. -/
theorem RowG.over (h : RowG g cap L w) (N : List En) (i : Nat) (hi : i ≤ L.length) (hf : i + N.length ≤ cap) (cur : Array Value) (hc : w.heap[g]? = some (.cells cur 33 (0, 0))) :
    RowG g cap (L.take i ++ N ++ L.drop (i + N.length)) (w.setRow g (cur.toList.take (i * 4) ++ cellsE N ++ cur.toList.drop (i * 4 + (cellsE N).length)).toArray) ∧ Chg (fun k => k = g) w (w.setRow g (cur.toList.take (i * 4) ++ cellsE N ++ cur.toList.drop (i * 4 + (cellsE N).length)).toArray) := by
  obtain ⟨cur', h1, h2, h3, h4, h5⟩ := h
  rw [hc] at h1
  injection h1 with h1
  injection h1 with h1 _ _
  subst h1
  refine ⟨⟨_, setRow_heap w g cur _ _ _ hc, by simp only [List.length_append, List.length_take, List.length_drop]; omega, h3, ?_, ?_⟩, ⟨rfl, rfl, rfl, by simp [World.setRow], fun k hk hs => ?_⟩⟩
  · simp only [List.size_toArray, List.length_append, List.length_take, List.length_drop, Array.length_toList, cellsE_len]
    omega
  · have hL : cur.toList = cellsE L ++ cur.toList.drop (L.length * 4) := by rw [← h5, List.take_append_drop]
    have ht : cur.toList.take (i * 4) = cellsE (L.take i) := by
      have e : cellsE L = cellsE (L.take i) ++ cellsE (L.drop i) := by rw [← cellsE_app, List.take_append_drop]
      rw [hL, List.take_append_of_le_length (by rw [cellsE_len]; omega), e, List.take_left']
      rw [cellsE_len, List.length_take]
      omega
    rw [List.toList_toArray, ht, cellsE_len]
    by_cases hc2 : i + N.length ≤ L.length
    · have hd : cur.toList.drop (i * 4 + N.length * 4) = cellsE (L.drop (i + N.length)) ++ cur.toList.drop (L.length * 4) := by
        have e : cellsE L = cellsE (L.take (i + N.length)) ++ cellsE (L.drop (i + N.length)) := by rw [← cellsE_app, List.take_append_drop]
        conv => lhs; rw [hL]
        rw [List.drop_append_of_le_length (by rw [cellsE_len]; omega), e, List.drop_left']
        rw [cellsE_len, List.length_take]
        omega
      rw [hd, ← List.append_assoc, List.take_append_of_le_length, ← cellsE_app, ← cellsE_app, List.take_of_length_le]
      · rw [cellsE_len]; exact Nat.le_refl _
      · simp only [List.length_append, cellsE_len, List.length_take, List.length_drop]; omega
    · have hd : L.drop (i + N.length) = [] := List.drop_eq_nil_of_le (by omega)
      rw [hd, List.append_nil, List.take_append_of_le_length, ← cellsE_app, List.take_of_length_le]
      · rw [cellsE_len]; exact Nat.le_refl _
      · simp only [List.length_append, cellsE_len, List.length_take]; omega
  · have hk' : ¬ g = k := fun e => hs e.symm
    simp [World.setRow, Array.getElem?_modify, hk']
/-- One entry of a row is stored anew. -/
theorem RowG.set4 (h : RowG g cap L w) {j : Nat} (hj : j < L.length) (e : En) :
    RowG g cap (L.set j e) ((((w.setCell ⟨g, j * 4, none⟩ (.int .i64 e.ep)).setCell ⟨g, j * 4 + 1, none⟩ (.int .i64 e.key)).setCell ⟨g, j * 4 + 2, none⟩ (.int .u64 e.nx)).setCell ⟨g, j * 4 + 3, none⟩ (.int .u64 e.bt)) ∧
    Chg (fun k => k = g) w ((((w.setCell ⟨g, j * 4, none⟩ (.int .i64 e.ep)).setCell ⟨g, j * 4 + 1, none⟩ (.int .i64 e.key)).setCell ⟨g, j * 4 + 2, none⟩ (.int .u64 e.nx)).setCell ⟨g, j * 4 + 3, none⟩ (.int .u64 e.bt)) := by
  have hh := h
  obtain ⟨cur, h1, h2, h3, h4, h5⟩ := h
  have ho := hh.over [e] j (by omega) (by simp; omega) cur h1
  have r1 := run_storeCells_at (P := Try.prog) g 0 33 (cellsE [e]) (j * 4) cur w h1 (by rw [cellsE_len]; simp; omega) (cellsE_one _)
  have r2 := run_storeCells_cells (P := Try.prog) g 0 (cellsE [e]) (j * 4) w (fun k hk => by
      rw [cell_of_row w g _ cur _ _ h1, Array.getElem?_eq_getElem (by rw [cellsE_len] at hk; simp at hk; omega)]
      rfl) (fun k hk => hh.free _) (cellsE_one _)
  rw [r1] at r2
  simp only [Nat.zero_add] at r2
  injection r2 with _ r2
  have e2 : w.setCells g (j * 4) (cellsE [e]) = ((((w.setCell ⟨g, j * 4, none⟩ (.int .i64 e.ep)).setCell ⟨g, j * 4 + 1, none⟩ (.int .i64 e.key)).setCell ⟨g, j * 4 + 2, none⟩ (.int .u64 e.nx)).setCell ⟨g, j * 4 + 3, none⟩ (.int .u64 e.bt)) := by
    simp [cellsE, En.cl, World.setCells]
  rw [← e2, ← r2]
  refine ⟨?_, ho.2⟩
  have e3 : L.set j e = L.take j ++ [e] ++ L.drop (j + [e].length) := by
    rw [List.set_eq_take_append_cons_drop, if_pos hj]
    simp
  rw [e3]
  exact ho.1
/-- copy(s[i:], x). -/
theorem RowG.copy (h : RowG g cap L w) (N : List En) (i dLen dCap : Nat) (a : Addr) (sLen sCap : Nat) (ty : TypeId) (hn : N.length = Nat.min sLen dLen) (hsrc : ∀ j u, (cellsE N)[j]? = some u → w.cell? (a.add j) = some u) (hi : i ≤ L.length) (hf : i + N.length ≤ cap) :
    ∃ w', (Builtin.copy_ #[24, 24] ty #[.slice (some ⟨g, i * 4, none⟩) dLen dCap, .slice (some a) sLen sCap]).run Try.prog w = .ok (goInt N.length) w' ∧ RowG g cap (L.take i ++ N ++ L.drop (i + N.length)) w' ∧ Chg (fun k => k = g) w w' := by
  have hh := h
  obtain ⟨cur, h1, h2, h3, h4, h5⟩ := h
  obtain ⟨hR, hC⟩ := hh.over N i hi hf cur h1
  refine ⟨_, ?_, hR, hC⟩
  have hl := run_loadCells_list (P := Try.prog) w a (cellsE N) hsrc
  have hst := run_storeCells_at (P := Try.prog) g (i * 4) 33 (cellsE N) 0 cur w h1 (by rw [cellsE_len]; omega) (cellsE_one _)
  obtain ⟨i0, hi0, hz0, hz1, hz2⟩ := sizeE
  rw [cellsE_len] at hl
  simp only [Nat.add_zero] at hst
  simp [Builtin.copy_, run_underlying Try.underlying24, Builtin.lenOf, Builtin.firstCells, sizeOf, typeInfo, hi0, hz1, ← hn, hl, hst]
/-- clear(s[i:]): entries behind a row's end are cleared. -/
theorem RowG.clear (h : RowG g cap L w) (i n c : Nat) (ty : TypeId) (hi : L.length ≤ i) (hf : i + n ≤ cap) :
    ∃ w', (Builtin.clear_ #[24] ty #[.slice (some ⟨g, i * 4, none⟩) n c]).run Try.prog w = .ok (.tuple #[]) w' ∧ RowG g cap L w' ∧ Chg (fun k => k = g) w w' := by
  cases n with
  | zero => exact ⟨w, by simp [Builtin.clear_, run_underlying Try.underlying24], h, ⟨rfl, rfl, rfl, Nat.le_refl _, fun _ _ _ => rfl⟩⟩
  | succ n =>
  have hh := h
  obtain ⟨cur, h1, h2, h3, h4, h5⟩ := h
  obtain ⟨i0, hi0, hz0, hz1, hz2⟩ := sizeE
  obtain ⟨Z, hZ⟩ : ∃ Z, Z = (Builtin.zeroCells zeroE.v.cells (n + 1)).toList := ⟨_, rfl⟩
  have hzl : Z.length = (n + 1) * 4 := by rw [hZ]; simp [Builtin.zeroCells, zeroE, En.v, Value.cells]
  have h1c : ∀ u ∈ Z, u.oneCell' = true := by
    intro u hu
    rw [hZ] at hu
    simp only [Builtin.zeroCells, Array.toList_map, List.mem_map] at hu
    obtain ⟨q, _, rfl⟩ := hu
    have hq : q % zeroE.v.cells.size < 4 := Nat.mod_lt _ (by decide)
    have : ∀ r, r < 4 → (zeroE.v.cells[r]!).oneCell' = true := by decide
    exact this _ hq
  have hst := run_storeCells_at (P := Try.prog) g (i * 4) 33 Z 0 cur w h1 (by rw [hzl]; omega) h1c
  simp only [Nat.add_zero] at hst
  refine ⟨w.setRow g (List.take (i * 4) cur.toList ++ Z ++ List.drop (i * 4 + Z.length) cur.toList).toArray, ?_, ⟨_, setRow_heap w g cur _ _ _ h1, h2, h3, ?_, ?_⟩, ⟨rfl, rfl, rfl, by simp [World.setRow], fun k hk hs => ?_⟩⟩
  · have hzv : ∀ u : World, (zeroValue 33).run Try.prog u = .ok zeroE.v u := fun u => by simp [zeroValue, typeInfo, hi0, hz0]
    simp [Builtin.clear_, run_underlying Try.underlying24, hzv, ← hZ, hst]
  · simp only [List.size_toArray, List.length_append, List.length_take, List.length_drop, Array.length_toList, hzl]
    omega
  · rw [List.toList_toArray, List.append_assoc, List.take_append_of_le_length (by have hcl : cur.toList.length = cur.size := Array.length_toList; rw [List.length_take]; omega), List.take_take, ← h5]
    congr 1
    omega
  · have hk' : ¬ g = k := fun e => hs e.symm
    simp [World.setRow, Array.getElem?_modify, hk']
end
end Go.Proofs.Ytpbcndbmmphngaa
