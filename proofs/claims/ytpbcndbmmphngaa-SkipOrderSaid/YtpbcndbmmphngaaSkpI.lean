/- Entries: Insert and Delete of the library. -/
import Derived.Test.YtpbcndbmmphngaaSkpE
namespace Go.Proofs.Ytpbcndbmmphngaa
open Go.RowKit
set_option linter.unusedVariables false
set_option linter.unusedSimpArgs false
set_option maxRecDepth 20000
theorem cellsE_zeros (k : Nat) : cellsE (List.replicate k zeroE) = (Builtin.zeroCells zeroE.v.cells k).toList := by
  have hs : zeroE.v.cells.size = 4 := rfl
  apply List.ext_getElem?
  intro j
  by_cases hj : j < k * 4
  · obtain ⟨q, r, rfl, hr⟩ : ∃ q r, j = q * 4 + r ∧ r < 4 := ⟨j / 4, j % 4, by omega, by omega⟩
    rw [cellsE_at _ q r hr (by rw [List.length_replicate]; omega)]
    have e1 : (List.replicate k zeroE).getD q zeroE = zeroE := by simp [List.getD, List.getElem?_replicate]; split <;> rfl
    rw [e1]
    have e2 : (Builtin.zeroCells zeroE.v.cells k).toList[q * 4 + r]? = some (zeroE.v.cells[r]!) := by
      rw [Array.getElem?_toList]
      have hm : (q * 4 + r) % 4 = r := by omega
      simp [Builtin.zeroCells, hs, hm, hj]
    rw [e2]
    have hr4 : r = 0 ∨ r = 1 ∨ r = 2 ∨ r = 3 := by omega
    rcases hr4 with e | e | e | e <;> subst e <;> rfl
  · rw [List.getElem?_eq_none (by rw [cellsE_len, List.length_replicate]; omega), List.getElem?_eq_none]
    simp [Builtin.zeroCells, hs]
    omega
section
variable {g c base : Nat} {L : List En} {w : World}
/-- append(s[:i], make(S, k)...), where there is no room: a new row. -/
theorem RowG.grown (h : RowG g c L w) (i k : Nat) (hi : i ≤ L.length) (h0 : 0 < k) (hg : c < i + k) (hb : i + k ≤ 100000) :
    ∃ c2 w', (∀ ty, (Builtin.append_ #[24, 3] ty #[.slice (some ⟨g, 0, none⟩) i c, .int .i64 k]).run Try.prog w = .ok (.slice (some ⟨w.heap.size, 0, none⟩) (i + k) c2) w') ∧ RowG w.heap.size c2 (L.take i ++ List.replicate k zeroE) w' ∧ Below w.heap.size w w' ∧ i + k ≤ c2 ∧ c2 ≤ maxLen := by
  obtain ⟨i0, hi0, hz0, hz1, hz2⟩ := sizeE
  have hT := h.take i
  have hl : (L.take i).length = i := by rw [List.length_take]; omega
  have hold : (Builtin.firstCells i0.size i (.slice (some ⟨g, 0, none⟩) i c)).run Try.prog w.drew = .ok (cellsE (L.take i)).toArray w.drew := by
    rw [hz1]
    exact run_firstCells_some w.drew 4 i ⟨g, 0, none⟩ i c (cellsE (L.take i)) (by rw [cellsE_len, hl]) (fun j v hj => by rw [addr_add]; exact hT.cell j v hj)
  have h1 := fun ty => Lib.run_append_grow_zeros w 24 3 ty 33 i0 _ .i64 .i64 Try.underlying24 Try.underlying3 hi0 hz0 (some ⟨g, 0, none⟩) i c (cellsE (L.take i)) hold k h0 (by omega) hg (by omega) (by rw [hz2]; omega) (by rw [hz2]; exact growslice_fits hg (by omega))
  have hm : i + k ≤ maxLen := by unfold maxLen; omega
  refine ⟨_, _, h1, ⟨_, heap_alloc_new w.drew _, ?_, grownCap_le_maxLen _ _ _ _ hm, ?_, ?_⟩, (drew_b w).trans (below_alloc w.drew _), grownCap_ge _ _ _ _, grownCap_le_maxLen _ _ _ _ hm⟩
  · rw [List.length_append, hl, List.length_replicate]; exact grownCap_ge _ _ _ _
  · have := grownCap_ge w (i + k) c 33
    have hs : zeroE.v.cells.size = 4 := rfl
    simp [Builtin.zeroCells, cellsE_len, hl, hs]
    omega
  · rw [List.length_append, hl, List.length_replicate, Array.toList_append, Array.toList_append, ← cellsE_zeros, List.toList_toArray, ← cellsE_app, List.take_left']
    rw [cellsE_len, List.length_append, hl, List.length_replicate]
end
set_option maxHeartbeats 4000000 in
set_option maxRecDepth 100000 in
/-- At the end. -/
theorem insert_end (v : Value) (base V : Nat) (e : En) (L : List En) (n c : Nat) (a : Option Addr) (w : World) (hv : v = .slice a n c) (hn : L.length = n) (h : OwnE 33 base v L w) (hV : ∀ j u, (cellsE [e])[j]? = some u → w.cell? ⟨V, 0 + j, none⟩ = some u) (hb : base ≤ w.heap.size) (hm : n ≤ 1000) :
    Calls Try.prog 25 #[v, .int .i64 n, .slice (some ⟨V, 0, none⟩) 1 1] w fun x w' => ∃ v', x = .returned v' ∧ OwnE 33 base v' (L ++ [e]) w' ∧ Below base w w' := by
  subst hv
  have HO := Lib.hid h
  have HV : Hid (∀ j u, (cellsE [e])[j]? = some u → w.cell? ((⟨V, 0, none⟩ : Addr).add j) = some u) := Lib.hid (fun j u hu => by rw [addE]; exact hV j u hu)
  have HB := Lib.hid hb
  have HM : Hid (L.length + 1 < 100000) := Lib.hid (by omega)
  have hnc : n ≤ c := by
    obtain ⟨a', c', e1, hr⟩ := h.at
    injection e1 with e1 e2 e3
    subst e3
    have := hr.1
    omega
  clear h hV hb
  by_cases hcn : c = n
  · subst hcn
    cases a with
    | none =>
      go_enter Try.func25, Try.ntmps25
      go_wp2_with (at_builtin; refine wpList_appE1 rfl (.tmp 23) (.tmp 24) 24 33 Try.underlying24 infoE rfl base _ L [e] _ rfl HO.out ⟨V, 0, none⟩ 1 1 rfl rfl HV.out HM.out HB.out ?_; intro v' w2 h1 h2 h3; have HA := Lib.hid (And.intro h1 (And.intro h2 h3)); clear h1 h2 h3)
      go_ret
      exact ⟨_, rfl, HA.out.1, HA.out.2.1⟩
    | some x =>
      obtain ⟨x1, x2, x3⟩ := x
      go_enter Try.func25, Try.ntmps25
      go_wp2_with (at_builtin; refine wpList_appE1 rfl (.tmp 23) (.tmp 24) 24 33 Try.underlying24 infoE rfl base _ L [e] _ rfl HO.out ⟨V, 0, none⟩ 1 1 rfl rfl HV.out HM.out HB.out ?_; intro v' w2 h1 h2 h3; have HA := Lib.hid (And.intro h1 (And.intro h2 h3)); clear h1 h2 h3)
      go_ret
      exact ⟨_, rfl, HA.out.1, HA.out.2.1⟩
  · have hnc' : (n : Int) ≤ (c : Int) := by omega
    cases a with
    | none =>
      exfalso
      obtain ⟨a', c', e1, hr⟩ := HO.out.at
      rcases HO.out.rowG with ⟨q, _⟩ | ⟨g, cap, q, _⟩
      · injection q with q1 q2 q3
        omega
      · injection q with q1 q2 q3
        cases q1
    | some x =>
      obtain ⟨x1, x2, x3⟩ := x
      go_enter Try.func25, Try.ntmps25
      go_wp2_with (at_builtin; refine wpList_appE1 rfl (.tmp 23) (.tmp 24) 24 33 Try.underlying24 infoE rfl base _ L [e] _ rfl HO.out ⟨V, 0, none⟩ 1 1 rfl rfl HV.out HM.out HB.out ?_; intro v' w2 h1 h2 h3; have HA := Lib.hid (And.intro h1 (And.intro h2 h3)); clear h1 h2 h3)
      go_ret
      exact ⟨_, rfl, HA.out.1, HA.out.2.1⟩
/-- The library's overlaps, of two blocks. -/
theorem overlaps_no {g c V : Nat} {L : List En} {w : World} (h : RowG g c L w) (hc : 0 < c) (e : En) (hV : w.heap[V]? = some (.cells e.cl 33 (0, 0))) (hne : V ≠ g) (k lb cb : Nat) :
    (callFunc 31 #[.slice (some ⟨V, 0, none⟩) 1 1, .slice (some ⟨g, k, none⟩) lb cb]).run Try.prog w = .ok (.value (.bool false)) w := by
  rw [run_callFunc_extern Try.func31 (by kernel_rfl) (by kernel_rfl) (by kernel_rfl) (e := Extern.SlicesOverlaps.overlaps #[24, 24] #[4]) (by kernel_rfl),
    Lib.run_overlaps_apart w 24 4 33 Try.underlying24 4 Try.sizeOf33 ⟨V, 0, none⟩ ⟨g, k, none⟩ 1 1 lb cb hne 33 33 4 (c * 4) (by simp [World.shape?, hV, En.cl]) h.shape (by omega) (by simp [World.frozen?, hV]) (by simp [World.frozen?, hV])]
  rfl
theorem RowG.drew {g c : Nat} {L : List En} {w : World} (h : RowG g c L w) : RowG g c L w.drew := h
theorem sets_mid (L : List En) (i : Nat) (e : En) (h : i ≤ L.length) : ((L.take (i + 1) ++ L.drop i).take i ++ [e] ++ (L.take (i + 1) ++ L.drop i).drop (i + 1)) = L.take i ++ e :: L.drop i := by
  by_cases h2 : i < L.length
  · have hl : (L.take (i + 1)).length = i + 1 := by rw [List.length_take]; omega
    rw [List.take_append_of_le_length (by omega), List.take_take, List.drop_left' hl, show min i (i + 1) = i by omega]
    simp
  · have : L.length = i := by omega
    have hd : L.drop i = [] := List.drop_eq_nil_of_le (by omega)
    rw [hd, List.append_nil, List.take_of_length_le (by omega : L.length ≤ i + 1), List.drop_eq_nil_of_le (by omega), List.take_of_length_le (by omega : L.length ≤ i)]
    simp
set_option maxHeartbeats 4000000 in
set_option maxRecDepth 100000 in
/-- In between, where there is room. -/
theorem insert_room {g c n i V : Nat} {e : En} {L : List En} {w : World} (hn : L.length = n) (h : RowG g c L w) (hV : w.heap[V]? = some (.cells e.cl 33 (0, 0))) (hne : V ≠ g) (hi : i < n) (hroom : n + 1 ≤ c) (hm : n ≤ 1000) :
    Calls Try.prog 25 #[.slice (some ⟨g, 0, none⟩) n c, .int .i64 i, .slice (some ⟨V, 0, none⟩) 1 1] w fun x w' => x = .returned (.slice (some ⟨g, 0, none⟩) (n + 1) c) ∧ RowG g c (L.take i ++ e :: L.drop i) w' ∧ Chg (fun k => k = g) w w' := by
  have hov := fun lb cb => overlaps_no h (by omega) e hV hne ((i + 1) * 4) lb cb
  have hc63 : c ≤ 9223372036854775807 := by have := h.len.2; unfold maxLen at this; omega
  have hz2 : ¬ ((i : Int) = (n : Int)) := by omega
  have hw1 : IntKind.i64.wrap ((i : Int) + 1) = (i : Int) + 1 := by rw [IntKind.wrap_i64]; omega
  have hwn : IntKind.i64.wrap ((n : Int) + 1) = (n : Int) + 1 := by rw [IntKind.wrap_i64]; omega
  have hb2 : ¬ (c = i + 1) := by omega
  have hb4 : ¬ (c = i) := by omega
  have hb5 : (i : Int) ≤ (n : Int) := by omega
  have hb6 : (i : Int) + 1 ≤ (n : Int) + 1 := by omega
  have hb7 : (n : Int) + 1 ≤ (c : Int) := by omega
  have hb8 : (i : Int) ≤ (n : Int) + 1 := by omega
  have hb1 : (0 : Int) ≤ (i : Int) + 1 := by omega
  have htn : ((i : Int) + 1).toNat = i + 1 := by omega
  have htm : ((n : Int) + 1).toNat = n + 1 := by omega
  have hdl : (L.drop i).length = n - i := by rw [List.length_drop, hn]
  obtain ⟨w1, hr1, hR1, hC1⟩ := h.drew.copy (L.drop i) (i + 1) (n - i) (c - (i + 1)) ⟨g, i * 4, none⟩ (n + 1 - i) (c - i) 3 (by rw [hdl]; simp only [Nat.min_def]; split <;> omega)
    (fun j u hu => by
      rw [addE]
      have e0 : cellsE L = cellsE (L.take i) ++ cellsE (L.drop i) := by rw [← cellsE_app, List.take_append_drop]
      refine h.cell _ u ?_
      rw [e0, List.getElem?_append_right (by rw [cellsE_len, List.length_take]; omega), cellsE_len, List.length_take, hn, show min i n = i by omega]
      rwa [show i * 4 + j - i * 4 = j by omega]) (by omega) (by omega)
  have hR1' : RowG g c (L.take (i + 1) ++ L.drop i) w1 := by
    have e0 : L.drop (i + 1 + (L.drop i).length) = [] := List.drop_eq_nil_of_le (by omega)
    rw [e0, List.append_nil] at hR1
    exact hR1
  have hl1 : (L.take (i + 1) ++ L.drop i).length = n + 1 := by rw [List.length_append, List.length_take, hdl]; omega
  have hV1 : w1.heap[V]? = some (.cells e.cl 33 (0, 0)) := (hC1.block V (blk_lt hV) hne).trans hV
  obtain ⟨w2, hr2, hR2, hC2⟩ := hR1'.copy [e] i (n + 1 - i) (c - i) ⟨V, 0, none⟩ 1 1 3 (by simp only [List.length_singleton, Nat.min_def]; split <;> omega)
    (fun j u hu => by
      rw [addE]
      have := World.news_of_block (cs := e.cl) (t := 33) (fr := (0, 0)) hV1 j u (by rw [cellsE, cellsE, List.append_nil] at hu; exact hu)
      rw [addr_add] at this
      rw [Nat.zero_add]
      exact this) (by omega) (by simp; omega)
  rw [hdl] at hr1
  have hR2' : Hid (RowG g c (L.take i ++ e :: L.drop i) w2 ∧ Chg (fun k => k = g) w w2) := Lib.hid ⟨by rw [← sets_mid L i e (by omega)]; exact hR2, (Chg.of_below (drew_b w)).trans (hC1.trans hC2)⟩
  clear hR2 hC1 hC2 hR1 hR1' hV1 hdl h hV hn hl1
  go_enter Try.func25, Try.ntmps25
  go_wp2_with (simp only [hov])
  go_region_law (refine step_copy_runI rfl _ _ 24 24 rfl _ _ (by simp [Act.eval, Act.put]) (by simp [Act.eval, Act.put]) hr1 ?_)
  go_wp2_with (at_builtin; refine wpList_copy_runI _ rfl _ _ 24 24 rfl _ _ rfl rfl hr2 ?_)
  go_ret
  exact ⟨rfl, hR2'.out.1, hR2'.out.2⟩
theorem sets_new {L : List En} {n i : Nat} (e : En) (hn : L.length = n) (hi : i ≤ n) :
    let D := (L.take i ++ List.replicate (n + 1 - i) zeroE).take i ++ [e] ++ (L.take i ++ List.replicate (n + 1 - i) zeroE).drop (i + 1)
    D.length = n + 1 ∧ D.take (i + 1) ++ L.drop i ++ D.drop (i + 1 + (L.drop i).length) = L.take i ++ e :: L.drop i := by
  intro D
  have hl : (L.take i).length = i := by rw [List.length_take]; omega
  have h0 : (L.take i ++ List.replicate (n + 1 - i) zeroE).take i = L.take i := List.take_left' hl
  have hD : D.length = n + 1 := by
    show ((L.take i ++ List.replicate (n + 1 - i) zeroE).take i ++ [e] ++ (L.take i ++ List.replicate (n + 1 - i) zeroE).drop (i + 1)).length = n + 1
    rw [h0]
    simp only [List.length_append, hl, List.length_drop, List.length_replicate, List.length_singleton]
    omega
  refine ⟨hD, ?_⟩
  have hdn : D.drop (i + 1 + (L.drop i).length) = [] := List.drop_eq_nil_of_le (by rw [hD, List.length_drop]; omega)
  rw [hdn, List.append_nil]
  have ht : D.take (i + 1) = L.take i ++ [e] := by
    show ((L.take i ++ List.replicate (n + 1 - i) zeroE).take i ++ [e] ++ (L.take i ++ List.replicate (n + 1 - i) zeroE).drop (i + 1)).take (i + 1) = _
    rw [h0, List.take_left']
    simp [hl]
  rw [ht]
  simp
set_option maxHeartbeats 4000000 in
set_option maxRecDepth 100000 in
/-- In between, where there is no room. -/
theorem insert_grow {g c n i V : Nat} {e : En} {L : List En} {w : World} (hn : L.length = n) (h : RowG g c L w) (hV : w.heap[V]? = some (.cells e.cl 33 (0, 0))) (hi : i < n) (hroom : c < n + 1) (hm : n ≤ 1000) :
    Calls Try.prog 25 #[.slice (some ⟨g, 0, none⟩) n c, .int .i64 i, .slice (some ⟨V, 0, none⟩) 1 1] w fun x w' => ∃ c2, x = .returned (.slice (some ⟨w.heap.size, 0, none⟩) (n + 1) c2) ∧ RowG w.heap.size c2 (L.take i ++ e :: L.drop i) w' ∧ Below w.heap.size w w' := by
  have hcn : n ≤ c := by have := h.len.1; omega
  have hc63 : c ≤ 9223372036854775807 := by have := h.len.2; unfold maxLen at this; omega
  have hz2 : ¬ ((i : Int) = (n : Int)) := by omega
  have hw1 : IntKind.i64.wrap ((i : Int) + 1) = (i : Int) + 1 := by rw [IntKind.wrap_i64]; omega
  have hwn : IntKind.i64.wrap ((n : Int) + 1) = (n : Int) + 1 := by rw [IntKind.wrap_i64]; omega
  have hws : IntKind.i64.wrap ((n : Int) + 1 - (i : Int)) = (n : Int) + 1 - (i : Int) := by rw [IntKind.wrap_i64]; omega
  have hz3 : (c : Int) < (n : Int) + 1 := by omega
  have hci : ¬ (c = i) := by omega
  have hb1 : (0 : Int) ≤ (i : Int) + 1 := by omega
  have hb3 : (i : Int) ≤ (n : Int) := by omega
  have hb5 : (i : Int) ≤ (c : Int) := by omega
  have hb6 : (i : Int) + 1 ≤ (n : Int) + 1 := by omega
  have hb8 : (i : Int) ≤ (n : Int) + 1 := by omega
  have htn : ((i : Int) + 1).toNat = i + 1 := by omega
  obtain ⟨c2, w1, hr0, hR0, hB0, hc2, hc3⟩ := h.grown i (n + 1 - i) (by omega) (by omega) (by omega) (by omega)
  have hik : i + (n + 1 - i) = n + 1 := by omega
  rw [hik] at hr0 hc2
  have hkk : ((n + 1 - i : Nat) : Int) = (n : Int) + 1 - (i : Int) := by omega
  rw [hkk] at hr0
  have hGi : ¬ (c2 = i) := by omega
  have hGim : ¬ (c2 = i + 1) := by omega
  have hgl := h.lt
  have hl0 : (L.take i ++ List.replicate (n + 1 - i) zeroE).length = n + 1 := by rw [List.length_append, List.length_take, List.length_replicate]; omega
  have hV1 : w1.heap[V]? = some (.cells e.cl 33 (0, 0)) := (hB0.block V (blk_lt hV)).trans hV
  obtain ⟨w2, hr1, hR1, hC1⟩ := hR0.copy [e] i (n + 1 - i) (c2 - i) ⟨V, 0, none⟩ 1 1 3 (by simp only [List.length_singleton, Nat.min_def]; split <;> omega)
    (fun j u hu => by
      rw [addE]
      have := World.news_of_block (cs := e.cl) (t := 33) (fr := (0, 0)) hV1 j u (by rw [cellsE, cellsE, List.append_nil] at hu; exact hu)
      rw [addr_add] at this
      rw [Nat.zero_add]
      exact this) (by omega) (by simp; omega)
  obtain ⟨hl1, hs1⟩ := sets_new (i := i) e hn (by omega)
  have hdl : (L.drop i).length = n - i := by rw [List.length_drop, hn]
  have hg1 : RowG g c L w1 := h.below hB0
  have hg2 : RowG g c L w2 := by
    obtain ⟨cur, q, q2⟩ := hg1
    exact ⟨cur, (hC1.block g (blk_lt q) (by omega)).trans q, q2⟩
  obtain ⟨w3, hr2, hR2, hC2⟩ := hR1.drew.copy (L.drop i) (i + 1) (n - i) (c2 - (i + 1)) ⟨g, i * 4, none⟩ (n - i) (c - i) 3 (by rw [hdl]; simp only [Nat.min_def]; split <;> omega)
    (fun j u hu => by
      rw [addE]
      have e0 : cellsE L = cellsE (L.take i) ++ cellsE (L.drop i) := by rw [← cellsE_app, List.take_append_drop]
      refine hg2.cell _ u ?_
      rw [e0, List.getElem?_append_right (by rw [cellsE_len, List.length_take]; omega), cellsE_len, List.length_take, hn, show min i n = i by omega]
      rwa [show i * 4 + j - i * 4 = j by omega]) (by show i + 1 ≤ _; have : i + 1 ≤ n + 1 := by omega
                                                     exact Nat.le_trans this (Nat.le_of_eq hl1.symm)) (by omega)
  rw [hdl] at hr2
  have hF : Hid (RowG w.heap.size c2 (L.take i ++ e :: L.drop i) w3 ∧ Below w.heap.size w w3) := Lib.hid ⟨by rw [← hs1]; exact hR2, by
    have h1 := hC1.below (B := w.heap.size) (fun k q => by omega) hB0.size
    have h2 := hC2.below (B := w.heap.size) (fun k q => by omega) (by have := hB0.size; have := hC1.size; show w.heap.size ≤ w2.heap.size; omega)
    exact ((hB0.trans h1).trans ((drew_b w2).mono (by have := hB0.size; have := hC1.size; omega))).trans h2⟩
  clear hR2 hC1 hC2 hR1 hR0 hV1 hdl h hV hn hl1 hs1 hg1 hg2 hB0 hl0 hik hkk hgl
  go_enter Try.func25, Try.ntmps25
  go_wp2_with (first
    | (at_builtin; refine Lib.wpList_append_run _ rfl _ _ _ _ rfl _ _ rfl rfl _ _ (hr0 _) ?_)
    | (at_builtin; refine wpList_copy_runI _ rfl _ _ 24 24 rfl _ _ rfl rfl hr1 ?_))
  go_region_law (refine step_copy_runI rfl _ _ 24 24 rfl _ _ (by simp [Act.eval, Act.put]) (by simp [Act.eval, Act.put]) hr2 ?_)
  go_wp2
  go_ret
  exact ⟨_, rfl, hF.out.1, hF.out.2⟩
end Go.Proofs.Ytpbcndbmmphngaa
