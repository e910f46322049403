/- The document's pool: made; a message taken out; what is too old is forgotten. -/
import Derived.Test.YtjcgckhheegonaaPoolG
import Derived.Test.YtjcgckhheegonaaPoolE
import Derived.Carry
import Derived.Deep.AppendLies
import Derived.Deep.Onto
namespace Go.Proofs.Ytjcgckhheegonaa
open Go.RowKit
set_option linter.unusedVariables false
set_option linter.unusedSimpArgs false
set_option maxRecDepth 20000
theorem infoM : (Try.prog.info? 71).map (fun i => (i.zero, i.size, i.bytes)) = some (some (.agg #[.slice none 0 0, .int .u64 0]), 2, 32) := by kernel_rfl
theorem wpList_appG {ops : Array Oper} {rest : List Oper} {o : Oper} {a : Act} {Q : Exit → Act → World → Prop} (hgd : o.guard = none) (s xo : Operand)
    (ho : o.op = .call { callee := .builtin .append, args := #[s, xo], argTypes := #[62, 62] })
    (base : Nat) (v : Value) (M N : List Mv) (w : World) (hs : a.eval s = v) (hown : w.ownsRow base 71 2 v M.length (cellsG M))
    (b off m c : Nat) (hx : a.eval xo = .slice (some ⟨b, off, none⟩) m c) (hm : m = N.length) (hB : ∀ j, j < N.length → w.cell? ⟨b, off + j * 2, none⟩ = some (N.getD j zeroG).2 ∧ w.cell? ⟨b, off + j * 2 + 1, none⟩ = some (.int .u64 (N.getD j zeroG).1.since)) (hone : OneC N) (hM : M.length + N.length < 100000) (hbase : base ≤ w.heap.size)
    (h : ∀ v' w', w'.ownsRow base 71 2 v' (M ++ N).length (cellsG (M ++ N)) → w.grownBy w' v.ownBlock → wpList Try.prog ops Q rest (a.put o.dst v') w') : wpList Try.prog ops Q (o :: rest) a w := by
  subst hm
  obtain ⟨i0, hi0, hz0, hz1, hz2⟩ : ∃ i0, Try.prog.info? 71 = some i0 ∧ i0.zero = some (.agg #[.slice none 0 0, .int .u64 0]) ∧ i0.size = 2 ∧ i0.bytes = 32 := by
    have hinf := infoM
    cases hi : Try.prog.info? 71 with
    | none => rw [hi] at hinf; cases hinf
    | some i0 =>
      rw [hi] at hinf
      simp only [Option.map_some, Option.some.injEq, Prod.mk.injEq] at hinf
      exact ⟨i0, rfl, hinf.1, hinf.2.1, hinf.2.2⟩
  refine wpList_append_own w hgd s xo 62 ho base 71 i0 (.agg #[.slice none 0 0, .int .u64 0]) 2 32 Try.underlying62 hi0 hz0 hz1 hz2 rfl (by decide) v M.length (cellsG M) hs hown ⟨b, off, none⟩ N.length c (cellsG N) hx (cellsG_len N) ?_ (cellsG_one N hone) (by unfold maxLen; omega) (by omega) hbase ?_
  · intro j u hu
    have hj : j < N.length * 2 := by
      rcases Nat.lt_or_ge j (N.length * 2) with q | q
      · exact q
      · rw [List.getElem?_eq_none (by rw [cellsG_len]; exact q)] at hu; cases hu
    have hadd : (⟨b, off, none⟩ : Addr).add j = ⟨b, off + j, none⟩ := by
      unfold Addr.add
      split
      · rename_i h0; subst h0; rfl
      · rfl
    rw [hadd]
    obtain ⟨c0, c1⟩ := hB (j / 2) (by omega)
    rcases Nat.mod_two_eq_zero_or_one j with q | q
    · have e : j = j / 2 * 2 := by omega
      rw [e, cellsG_0 N (j / 2) (by omega)] at hu
      rw [e, c0]
      exact hu
    · have e : j = j / 2 * 2 + 1 := by omega
      rw [e, cellsG_1 N (j / 2) (by omega)] at hu
      rw [e, ← Nat.add_assoc, c1]
      exact hu
  · intro v' w' h1 h2 _
    refine h v' w' ?_ h2
    rw [List.length_append, cellsG_app]
    exact h1
theorem row_form {w : World} {base : Nat} {e : TypeId} {size : Nat} {v : Value} {n : Nat} {xs : List Value} (h : w.ownsRow base e size v n xs) : ∃ a m c, v = .slice a m c ∧ Hid (m = n) := by
  rcases h.2 with ⟨hv, hn⟩ | ⟨g, cap, cur, hv, _⟩
  · exact ⟨none, 0, 0, hv, Lib.hid hn.symm⟩
  · exact ⟨_, _, _, hv, Lib.hid rfl⟩
theorem getD_take {α : Type} {d : α} {L : List α} {n i : Nat} (h : i < n) : (L.take n).getD i d = L.getD i d := by
  simp only [List.getD_eq_getElem?_getD, List.getElem?_take_of_lt h]
theorem getD_drop {α : Type} {d : α} {L : List α} (n i : Nat) : (L.drop n).getD i d = L.getD (n + i) d := by
  simp only [List.getD_eq_getElem?_getD, List.getElem?_drop]
set_option maxHeartbeats 1000000 in
theorem rnew_no (slots bytes : Int) (w : World) (h : ¬ (1 ≤ slots ∧ slots ≤ 16 ∧ 1 ≤ bytes ∧ bytes ≤ 65536)) : Calls Try.prog 10 #[.int .i64 slots, .int .i64 bytes] w fun e w' => e = .returned (.tuple #[.pointer none, .int .i64 1]) ∧ Below w.heap.size w w' := by
  by_cases h1 : slots < 1
  · clear h
    go_enter Try.func10, Try.ntmps10
    go_wp2
    exact bodyPost_ret (v := .tuple #[.pointer none, .int .i64 1]) (by simp [results, Try.results10, go_sem]) rfl ⟨rfl, Below.refl _ _⟩
  · by_cases h2 : 16 < slots
    · clear h
      go_enter Try.func10, Try.ntmps10
      go_wp2
      exact bodyPost_ret (v := .tuple #[.pointer none, .int .i64 1]) (by simp [results, Try.results10, go_sem]) rfl ⟨rfl, Below.refl _ _⟩
    · by_cases h3 : bytes < 1
      · clear h
        go_enter Try.func10, Try.ntmps10
        go_wp2
        exact bodyPost_ret (v := .tuple #[.pointer none, .int .i64 1]) (by simp [results, Try.results10, go_sem]) rfl ⟨rfl, Below.refl _ _⟩
      · have h4 : 65536 < bytes := by omega
        clear h
        go_enter Try.func10, Try.ntmps10
        go_wp2
        exact bodyPost_ret (v := .tuple #[.pointer none, .int .i64 1]) (by simp [results, Try.results10, go_sem]) rfl ⟨rfl, Below.refl _ _⟩
set_option maxHeartbeats 1000000 in
theorem rnew_k (slots bytes : Int) (w : World) (h : 1 ≤ slots ∧ slots ≤ 16 ∧ 1 ≤ bytes ∧ bytes ≤ 65536) : Calls Try.prog 10 #[.int .i64 slots, .int .i64 bytes] w fun e w' => ∃ q, e = .returned (.tuple #[.pointer (some ⟨q, 0, none⟩), .int .i64 0]) ∧ RPl w' q ⟨[], slots, bytes⟩ (.slice none 0 0) [] ∧ w.heap.size ≤ q ∧ Below w.heap.size w w' := by
  obtain ⟨h1, h2, h3, h4⟩ := h
  have g1 : ¬ slots < 1 := by omega
  have g2 : ¬ 16 < slots := by omega
  have g3 : ¬ bytes < 1 := by omega
  have g4 : ¬ 65536 < bytes := by omega
  clear h1 h2 h3 h4
  go_enter Try.func10, Try.ntmps10
  go_wp2
  refine bodyPost_ret (v := .tuple #[.pointer (some ⟨w.heap.size, 0, none⟩), .int .i64 0]) (by simp [results, Try.results10, go_sem]) rfl ?_
  exact ⟨_, rfl, ⟨heap_alloc_new w _, World.ownsRow_nil _ _ _ _, rfl, fun x hx => by simp at hx⟩, Nat.le_refl _, below_alloc w _⟩
theorem RPl.wo {w w' : World} {q : Nat} {P : Pl} {v v' : Value} {xs : List Mv} {i base : Nat} (h : RPl w q P v xs) (hb : Below w.heap.size w w') (hr : w'.ownsRow base 71 2 v' (xs.take i ++ xs.drop (i + 1)).length (cellsG (xs.take i ++ xs.drop (i + 1)))) (hbase : w.heap.size ≤ base) :
    RPl (w'.setCell ⟨q, 0, none⟩ v') q { P with l := P.l.take i ++ P.l.drop (i + 1) } v' (xs.take i ++ xs.drop (i + 1)) ∧ Chg (fun k => k = q) w (w'.setCell ⟨q, 0, none⟩ v') := by
  have hq := blk_lt h.blk
  have hc := Chg.setCell w' q 0 v'
  refine ⟨⟨?_, ?_, ?_, fun x hx => ?_⟩, (Chg.of_below hb).trans hc⟩
  · have := heap_setCell_same w' q 0 _ _ v' ((hb.block q hq).trans h.blk)
    simpa using this
  · refine World.ownsRow.mono (hc.row hr (fun k hk e => ?_)) (Nat.zero_le _)
    have := (World.ownsRow.lt hr k hk).1
    omega
  · rw [List.map_append, List.map_take, List.map_drop, h.fst]
  · have hx' : x ∈ xs := by
      rcases List.mem_append.1 hx with r | r
      · exact List.mem_of_mem_take r
      · exact List.mem_of_mem_drop r
    refine ((h.each x hx').below hb).chg hc (fun k hk e => ?_)
    obtain ⟨cs, hcs⟩ := h.partK hx' k hk
    rw [e, h.blk] at hcs
    injection hcs with hcs
    injection hcs with _ hcs _
    cases hcs
set_option maxHeartbeats 4000000 in
theorem rwo_2 {w : World} {q : Nat} {P : Pl} {xs : List Mv} {g cap n i : Nat} (h : RPl w q P (.slice (some ⟨g, 0, none⟩) n cap) xs) (hn : xs.length = n) (hl : n ≤ 1000) (hi : i < n) (hc : n ≤ cap) (hcm : cap ≤ maxLen) (hr : ∀ j, j < n → w.cell? ⟨g, j * 2, none⟩ = some (xs.getD j zeroG).2 ∧ w.cell? ⟨g, j * 2 + 1, none⟩ = some (.int .u64 (xs.getD j zeroG).1.since)) (hcase : i + 1 < cap) :
    Calls Try.prog 24 #[.pointer (some ⟨q, 0, none⟩), .int .i64 i] w fun e w' => ∃ v', e = .returned (.tuple #[]) ∧ RPl w' q { P with l := P.l.take i ++ P.l.drop (i + 1) } v' (xs.take i ++ xs.drop (i + 1)) ∧ Chg (fun k => k = q) w w' ∧ ∀ k, v'.ownBlock = some k → w.heap.size ≤ k := by
  have HH := Lib.hid h
  have HN := Lib.hid hn
  have HRW := Lib.hid hr
  unfold maxLen at hcm
  have hii : (0 : Int) ≤ (i : Int) := by omega
  have hi0 : decide ((i : Int) < 0) = false := by simp
  have hi1 : (i : Int) ≤ (cap : Int) := by omega
  have hi2 : (i : Int) + 1 < (cap : Int) := by omega
  have hi3 : (i : Int) + 1 ≤ (n : Int) := by omega
  have hn3 : (n : Int) ≤ 1000 := by omega
  have HI : Hid (i < n ∧ n ≤ 1000 ∧ i + 1 < cap) := Lib.hid (by omega)
  have HQ := Lib.hid h.blk
  have c0 := cell_atA 0 (((below_alloc w (.cells #[] 71)).block q (blk_lt HQ.out)).trans HQ.out)
  simp at c0
  have HBA : Hid (Below w.heap.size w (w.alloc (.cells #[] 71))) := Lib.hid (below_alloc w _)
  have HR2 : Hid (∀ W, Below w.heap.size w W → ∀ j, j < n → W.cell? ⟨g, j * 2, none⟩ = some (xs.getD j zeroG).2 ∧ W.cell? ⟨g, j * 2 + 1, none⟩ = some (.int .u64 (xs.getD j zeroG).1.since)) := Lib.hid (fun W hW j hj => by
    obtain ⟨x0, x1⟩ := hr j hj
    exact ⟨(hW.cell (block_lt_of_cell x0)).trans x0, (hW.cell (block_lt_of_cell x1)).trans x1⟩)
  have HO1 : Hid (OneC xs) := Lib.hid (fun x hx => (h.each x hx).oneC)
  have HTL : Hid ((xs.take i).length = i ∧ (xs.drop (i + 1)).length = n - (i + 1)) := Lib.hid ⟨by rw [List.length_take, hn]; omega, by rw [List.length_drop, hn]⟩
  have HO0 : Hid ((w.alloc (.cells #[] 71)).ownsRow w.heap.size 71 2 (.slice (some ⟨w.heap.size, 0, none⟩) 0 0) ([] : List Mv).length (cellsG [])) := Lib.hid (World.ownsRow_made w #[] 0 (Nat.le_refl _) (Nat.zero_le _) rfl)
  clear h hn hr hi hc hcase hl
  go_enter Try.func24, Try.ntmps24
  go_wp2_with (first
    | (at_builtin; refine wpList_appG rfl (.tmp 5) (.tmp 11) rfl w.heap.size _ [] (xs.take i) _ rfl HO0.out g 0 i cap rfl HTL.out.1.symm (fun j hj => by rw [HTL.out.1] at hj; rw [getD_take hj, Nat.zero_add]; exact HR2.out _ HBA.out j (by have := HI.out; omega)) (fun x hx => HO1.out x (List.mem_of_mem_take hx)) (by rw [HTL.out.1]; have := HI.out; simp; omega) (by simp) ?_; intro v1 w2 hA hG; have HB2 : Hid (Below w.heap.size w w2) := Lib.hid (HBA.out.trans ((Chg.grown hG).below (fun k hk => (World.ownsRow.lt HO0.out k hk.symm).1) (by simp))); have HA1 := Lib.hid hA; have HS2 : Hid (w.heap.size ≤ w2.heap.size) := Lib.hid HB2.out.size; have c2 := cell_atA 0 ((HB2.out.block q (blk_lt HQ.out)).trans HQ.out); simp at c2; clear hA hG)
    | (at_builtin; refine wpList_appG rfl (.tmp 13) (.tmp 20) rfl w.heap.size _ ([] ++ xs.take i) (xs.drop (i + 1)) _ rfl HA1.out g ((i + 1) * 2) (n - (i + 1)) (cap - (i + 1)) rfl HTL.out.2.symm (fun j hj => by rw [HTL.out.2] at hj; rw [getD_drop]; have := HR2.out _ HB2.out (i + 1 + j) (by omega); rw [show (i + 1 + j) * 2 = (i + 1) * 2 + j * 2 by omega] at this; exact this) (fun x hx => HO1.out x (List.mem_of_mem_drop hx)) (by rw [List.nil_append, HTL.out.1, HTL.out.2]; have := HI.out; omega) HS2.out ?_; intro v2 w3 hA hG; have HB3 : Hid (Below w.heap.size w w3) := Lib.hid (HB2.out.trans ((Chg.grown hG).below (fun k hk => (World.ownsRow.lt HA1.out k hk.symm).1) HS2.out)); have HA2 := Lib.hid hA; have hq3 := (HB3.out.block q (blk_lt HQ.out)).trans HQ.out; have c3 := cell_atA 0 hq3; simp at c3; have f3 := frz_atA 0 hq3; clear hA hG hq3; obtain ⟨av, nv, cv, hv2, HNV⟩ := row_form HA2.out; subst hv2)
    | go_in)
  go_end0
  have key := HH.out.wo (i := i) HB3.out (by have := HA2.out; rw [List.nil_append] at this; exact this) (Nat.le_refl _)
  exact ⟨_, rfl, key.1, key.2, fun k hk => (World.ownsRow.lt HA2.out k hk).1⟩
set_option maxHeartbeats 4000000 in
theorem rwo_1 {w : World} {q : Nat} {P : Pl} {xs : List Mv} {g cap n i : Nat} (h : RPl w q P (.slice (some ⟨g, 0, none⟩) n cap) xs) (hn : xs.length = n) (hl : n ≤ 1000) (hi : i < n) (hc : n ≤ cap) (hcm : cap ≤ maxLen) (hr : ∀ j, j < n → w.cell? ⟨g, j * 2, none⟩ = some (xs.getD j zeroG).2 ∧ w.cell? ⟨g, j * 2 + 1, none⟩ = some (.int .u64 (xs.getD j zeroG).1.since)) (hcase : i + 1 = cap) :
    Calls Try.prog 24 #[.pointer (some ⟨q, 0, none⟩), .int .i64 i] w fun e w' => ∃ v', e = .returned (.tuple #[]) ∧ RPl w' q { P with l := P.l.take i ++ P.l.drop (i + 1) } v' (xs.take i ++ xs.drop (i + 1)) ∧ Chg (fun k => k = q) w w' ∧ ∀ k, v'.ownBlock = some k → w.heap.size ≤ k := by
  have HH := Lib.hid h
  have HN := Lib.hid hn
  have HRW := Lib.hid hr
  unfold maxLen at hcm
  have hii : (0 : Int) ≤ (i : Int) := by omega
  have hi0 : decide ((i : Int) < 0) = false := by simp
  have hi1 : (i : Int) ≤ (cap : Int) := by omega
  have hi2 : (i : Int) + 1 = (cap : Int) := by omega
  have hi3 : (i : Int) + 1 ≤ (n : Int) := by omega
  have hn3 : (n : Int) ≤ 1000 := by omega
  have HI : Hid (i < n ∧ n ≤ 1000 ∧ i + 1 = cap ∧ n ≤ cap) := Lib.hid (by omega)
  have HQ := Lib.hid h.blk
  have c0 := cell_atA 0 (((below_alloc w (.cells #[] 71)).block q (blk_lt HQ.out)).trans HQ.out)
  simp at c0
  have HBA : Hid (Below w.heap.size w (w.alloc (.cells #[] 71))) := Lib.hid (below_alloc w _)
  have HR2 : Hid (∀ W, Below w.heap.size w W → ∀ j, j < n → W.cell? ⟨g, j * 2, none⟩ = some (xs.getD j zeroG).2 ∧ W.cell? ⟨g, j * 2 + 1, none⟩ = some (.int .u64 (xs.getD j zeroG).1.since)) := Lib.hid (fun W hW j hj => by
    obtain ⟨x0, x1⟩ := hr j hj
    exact ⟨(hW.cell (block_lt_of_cell x0)).trans x0, (hW.cell (block_lt_of_cell x1)).trans x1⟩)
  have HO1 : Hid (OneC xs) := Lib.hid (fun x hx => (h.each x hx).oneC)
  have HTL : Hid ((xs.take i).length = i ∧ (xs.drop (i + 1)).length = n - (i + 1)) := Lib.hid ⟨by rw [List.length_take, hn]; omega, by rw [List.length_drop, hn]⟩
  have HO0 : Hid ((w.alloc (.cells #[] 71)).ownsRow w.heap.size 71 2 (.slice (some ⟨w.heap.size, 0, none⟩) 0 0) ([] : List Mv).length (cellsG [])) := Lib.hid (World.ownsRow_made w #[] 0 (Nat.le_refl _) (Nat.zero_le _) rfl)
  clear h hn hr hi hc hcase hl
  go_enter Try.func24, Try.ntmps24
  go_wp2_with (first
    | (at_builtin; refine wpList_appG rfl (.tmp 5) (.tmp 11) rfl w.heap.size _ [] (xs.take i) _ rfl HO0.out g 0 i cap rfl HTL.out.1.symm (fun j hj => by rw [HTL.out.1] at hj; rw [getD_take hj, Nat.zero_add]; exact HR2.out _ HBA.out j (by have := HI.out; omega)) (fun x hx => HO1.out x (List.mem_of_mem_take hx)) (by rw [HTL.out.1]; have := HI.out; simp; omega) (by simp) ?_; intro v1 w2 hA hG; have HB2 : Hid (Below w.heap.size w w2) := Lib.hid (HBA.out.trans ((Chg.grown hG).below (fun k hk => (World.ownsRow.lt HO0.out k hk.symm).1) (by simp))); have HA1 := Lib.hid hA; have HS2 : Hid (w.heap.size ≤ w2.heap.size) := Lib.hid HB2.out.size; have c2 := cell_atA 0 ((HB2.out.block q (blk_lt HQ.out)).trans HQ.out); simp at c2; clear hA hG)
    | (at_builtin; refine wpList_appG rfl (.tmp 13) (.tmp 20) rfl w.heap.size _ ([] ++ xs.take i) (xs.drop (i + 1)) _ rfl HA1.out g 0 (n - cap) 0 rfl (by rw [HTL.out.2]; have := HI.out; omega) (fun j hj => by rw [HTL.out.2] at hj; have := HI.out; omega) (fun x hx => HO1.out x (List.mem_of_mem_drop hx)) (by rw [List.nil_append, HTL.out.1, HTL.out.2]; have := HI.out; omega) HS2.out ?_; intro v2 w3 hA hG; have HB3 : Hid (Below w.heap.size w w3) := Lib.hid (HB2.out.trans ((Chg.grown hG).below (fun k hk => (World.ownsRow.lt HA1.out k hk.symm).1) HS2.out)); have HA2 := Lib.hid hA; have hq3 := (HB3.out.block q (blk_lt HQ.out)).trans HQ.out; have c3 := cell_atA 0 hq3; simp at c3; have f3 := frz_atA 0 hq3; clear hA hG hq3; obtain ⟨av, nv, cv, hv2, HNV⟩ := row_form HA2.out; subst hv2)
    | go_in)
  go_end0
  have key := HH.out.wo (i := i) HB3.out (by have := HA2.out; rw [List.nil_append] at this; exact this) (Nat.le_refl _)
  exact ⟨_, rfl, key.1, key.2, fun k hk => (World.ownsRow.lt HA2.out k hk).1⟩
theorem rwo_k {w : World} {q : Nat} {P : Pl} {v : Value} {xs : List Mv} (h : RPl w q P v xs) (hl : xs.length ≤ 1000) {i : Nat} (hi : i < xs.length) :
    Calls Try.prog 24 #[.pointer (some ⟨q, 0, none⟩), .int .i64 i] w fun e w' => ∃ v', e = .returned (.tuple #[]) ∧ RPl w' q { P with l := P.l.take i ++ P.l.drop (i + 1) } v' (xs.take i ++ xs.drop (i + 1)) ∧ Chg (fun k => k = q) w w' ∧ ∀ k, v'.ownBlock = some k → w.heap.size ≤ k := by
  obtain ⟨a, cap, g, hv, _, _, _, _, hc, hm, hr⟩ := h.cells
  obtain ⟨ha, _⟩ := hr i hi
  subst ha hv
  by_cases hcase : i + 1 < cap
  · exact rwo_2 h rfl hl hi hc hm (fun j hj => ⟨(hr j hj).2.1, (hr j hj).2.2.1⟩) hcase
  · exact rwo_1 h rfl hl hi hc hm (fun j hj => ⟨(hr j hj).2.1, (hr j hj).2.2.1⟩) (by omega)
end Go.Proofs.Ytjcgckhheegonaa
