/- Entries: Insert wherever, Delete of the first one of five. -/
import Derived.Test.YtpbcndbmmphngaaSkpI
namespace Go.Proofs.Ytpbcndbmmphngaa
open Go.RowKit
set_option linter.unusedVariables false
set_option linter.unusedSimpArgs false
set_option maxRecDepth 20000
theorem insert_k {a : Option Addr} {n c i base V : Nat} {e : En} {L : List En} {w : World} (hn : L.length = n) (h : OwnE 33 base (.slice a n c) L w) (hV : w.heap[V]? = some (.cells e.cl 33 (0, 0))) (hVn : ∀ g, (Value.slice a n c).ownBlock = some g → V ≠ g) (hb : base ≤ w.heap.size) (hi : i ≤ n) (hm : n ≤ 1000) :
    Calls Try.prog 25 #[.slice a n c, .int .i64 i, .slice (some ⟨V, 0, none⟩) 1 1] w fun x w' => ∃ a' c', x = .returned (.slice a' (n + 1) c') ∧ OwnE 33 base (.slice a' (n + 1) c') (L.take i ++ e :: L.drop i) w' ∧ Below base w w' := by
  have hlen : (L.take i ++ e :: L.drop i).length = n + 1 := by
    rw [List.length_append, List.length_cons, List.length_take, List.length_drop]; omega
  by_cases hin : i = n
  · subst hin
    have hV' : ∀ j u, (cellsE [e])[j]? = some u → w.cell? ⟨V, 0 + j, none⟩ = some u := fun j u hu => by
      have := World.news_of_block (cs := e.cl) (t := 33) (fr := (0, 0)) hV j u (by rw [cellsE, cellsE, List.append_nil] at hu; exact hu)
      rw [addr_add] at this
      rw [Nat.zero_add]
      exact this
    refine (insert_end _ base V e L i c a w rfl hn h hV' hb hm).mono ?_
    rintro x w' ⟨v', he, hO, hB⟩
    obtain ⟨a', c', rfl, _⟩ := hO.at
    have hl : (L ++ [e]).length = i + 1 := by simp [hn]
    have e1 : L.take i ++ e :: L.drop i = L ++ [e] := by
      rw [List.take_of_length_le (by omega), List.drop_eq_nil_of_le (by omega)]
    rw [hl] at he hO
    exact ⟨a', c', he, by rw [e1]; exact hO, hB⟩
  · rcases h.rowG with ⟨q, _⟩ | ⟨g, cap, q, hg, hr⟩
    · injection q with q1 q2 q3
      omega
    · injection q with q1 q2 q3
      subst q1 q3
      by_cases hroom : n + 1 ≤ c
      · refine (insert_room hn hr hV (hVn g rfl) (by omega) hroom hm).mono ?_
        rintro x w' ⟨he, hR, hC⟩
        refine ⟨_, c, he, ?_, hC.below (fun k q => by rw [q]; exact hg) hb⟩
        rw [← hlen]
        exact hR.own hg
      · refine (insert_grow hn hr hV (by omega) (by omega) hm).mono ?_
        rintro x w' ⟨c2, he, hR, hB⟩
        refine ⟨_, c2, he, ?_, hB.mono hb⟩
        rw [← hlen]
        exact hR.own hb
/-- append(s[:0], s[1:]...): in place. -/
theorem RowG.shift {g c : Nat} {x : En} {L : List En} {w : World} (h : RowG g c (x :: L) w) (hl : L.length = 4) (ty : TypeId) :
    ∃ w', (Builtin.append_ #[24, 24] ty #[.slice (some ⟨g, 0, none⟩) 0 c, .slice (some ⟨g, 4, none⟩) 4 (c - 1)]).run Try.prog w = .ok (.slice (some ⟨g, 0, none⟩) 4 c) w' ∧ RowG g c L w' ∧ Chg (fun k => k = g) w w' := by
  have hh := h
  have hlc := h.len.1
  obtain ⟨cur, h1, h2, h3, h4, h5⟩ := h
  obtain ⟨hR, hC⟩ := hh.over L 0 (Nat.zero_le _) (by simp at hlc; omega) cur h1
  refine ⟨_, ?_, ?_, hC⟩
  · have hl2 := run_loadCells_list (P := Try.prog) w ⟨g, 4, none⟩ (cellsE L) (fun j u hu => by
      rw [addE]
      refine hh.cell _ u ?_
      rw [cellsE, List.getElem?_append_right (by rw [clE_len]; omega), clE_len, show 4 + j - 4 = j by omega]
      exact hu)
    have hst := run_storeCells_at (P := Try.prog) g 0 33 (cellsE L) 0 cur w h1 (by rw [cellsE_len]; simp at hlc; omega) (cellsE_one _)
    obtain ⟨i0, hi0, hz0, hz1, hz2⟩ := sizeE
    rw [cellsE_len, hl] at hl2
    have hadd : (⟨g, 0, none⟩ : Addr).add 0 = ⟨g, 0, none⟩ := addE g 0 0
    simp only [Nat.zero_add] at hst
    have h4c : 4 ≤ c := by simp at hlc; omega
    simp [Builtin.append_, run_underlying Try.underlying24, Builtin.lenOf, Builtin.firstCells, sizeOf, typeInfo, hi0, hz1, hl2, hadd, hst, h4c]
  · have e1 : (List.take 0 (x :: L) ++ L ++ (x :: L).drop (0 + L.length)).take 4 = L := by
      rw [List.take_append_of_le_length (by simp [hl])]
      simp [← hl]
    have h9 := hR.take 4
    rw [e1] at h9
    exact h9
theorem step_append_runE {ops : Array Oper} {o : Oper} {a : Act} {w : World} {K : Act → World → Prop} {Q : Exit → Act → World → Prop} {E : Prop}
    (hg : o.guard = none) (d x : Operand) (dT sT : TypeId) (hop : o.op = Op.call { callee := Callee.builtin Builtin.append, args := #[d, x], argTypes := #[dT, sT] })
    (v u : Value) (hd : a.eval d = v) (hx : a.eval x = u) {v' : Value} {w' : World} (hr : (Builtin.append_ #[dT, sT] o.type #[v, u]).run Try.prog w = .ok v' w') (hK : K (a.put o.dst v') w') :
    if Region.wanted o (yielded ops a.tmps) = true then Oper.wp Try.prog o a w K Q else E := by
  have hw : Region.wanted o (yielded ops a.tmps) = true := by simp [Region.wanted, hg]
  rw [if_pos hw]
  unfold Oper.wp
  simp [execOp, hop, resolve, invoke, builtin, hd, hx, hr, Result.andThen]
  exact hK
set_option maxHeartbeats 4000000 in
set_option maxRecDepth 100000 in
theorem delete_e {g c : Nat} {x : En} {L : List En} {w : World} (h : RowG g c (x :: L) w) (hl : L.length = 4) :
    Calls Try.prog 27 #[.slice (some ⟨g, 0, none⟩) 5 c, .int .i64 0, .int .i64 1] w fun e w' => e = .returned (.slice (some ⟨g, 0, none⟩) 4 c) ∧ RowG g c L w' ∧ Chg (fun k => k = g) w w' := by
  have hlc := h.len.1
  have hc63 : c ≤ 9223372036854775807 := by have := h.len.2; unfold maxLen at this; omega
  have h5c : 5 ≤ c := by simp at hlc; omega
  have hc1 : ¬ (c = 1) := by omega
  have hc0 : ¬ (c = 0) := by omega
  have hc4 : ¬ (c = 4) := by omega
  have hi1 : (1 : Int) ≤ (c : Int) := by omega
  have hi5 : (5 : Int) ≤ (c : Int) := by omega
  obtain ⟨w1, hr1, hR1, hC1⟩ := h.drew.shift hl 24
  obtain ⟨w2, hr2, hR2, hC2⟩ := hR1.clear 4 1 (c - 4) 0 (by omega) (by omega)
  have hF : Hid (RowG g c L w2 ∧ Chg (fun k => k = g) w w2) := Lib.hid ⟨hR2, (Chg.of_below (drew_b w)).trans (hC1.trans hC2)⟩
  replace hr2 : Sem.run Try.prog (Builtin.clear_ #[24] 0 #[.slice (some ⟨g, 16, none⟩) 1 (c - 4)]) w1 = .ok (.tuple #[]) w2 := hr2
  clear h hlc hR1 hC1 hR2 hC2 hl
  go_enter Try.func27, Try.ntmps27
  go_wp2_with fail
  go_region_law (refine step_append_runE rfl _ _ 24 24 rfl _ _ (by simp [Act.eval, Act.put]) (by simp [Act.eval, Act.put]) hr1 ?_)
  go_wp2
  go_ret
  exact ⟨rfl, hF.out.1, hF.out.2⟩
end Go.Proofs.Ytpbcndbmmphngaa
