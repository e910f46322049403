/- Windows: words for the law of replay: a window beside a row of numbers that the law appends to. -/
import Derived.Test.YtkdjlhnddnolaaaWinL
namespace Go.Proofs.Ytkdjlhnddnolaaa
open Go.RowKit
open Go.ChangeShapes Go.WideShapes
set_option linter.unusedVariables false
set_option linter.unusedSimpArgs false
set_option maxRecDepth 20000
theorem infoU : (Try.prog.info? 22).map (fun i => (i.zero, i.size, i.bytes)) = some (some (.int .u64 0), 1, 8) := by kernel_rfl
/-- One number appended to a row of the call's own: what has turned, and where the row lies. -/
theorem wpList_appH {ops : Array Oper} {rest : List Oper} {o : Oper} {a : Act} {Q : Exit → Act → World → Prop} (hgd : o.guard = none) (s xo : Operand) (t e : TypeId) (k : IntKind) (bytes : Nat)
    (ht : Try.prog.underlying t = some (.slice e)) (hinf : (Try.prog.info? e).map (fun i => (i.zero, i.size, i.bytes)) = some (some (.int k 0), 1, bytes)) (hby : bytes ≤ 8)
    (ho : o.op = .call { callee := .builtin .append, args := #[s, xo], argTypes := #[t, t] })
    (base : Nat) (v : Value) (M : List Int) (x : Int) (w : World) (hs : a.eval s = v) (hown : Own e k base v M w)
    (B c : Nat) (hx : a.eval xo = .slice (some ⟨B, 0, none⟩) 1 c) (hB : w.heap[B]? = some (.cells #[.int k x] e (0, 0))) (hM : M.length < 100000) (hbase : base ≤ w.heap.size)
    (h : ∀ v' w', Own e k base v' (M ++ [x]) w' → Chg (fun j => some j = v.ownBlock) w w' → (∀ j, v'.ownBlock = some j → v.ownBlock = some j ∨ w.heap.size ≤ j) → wpList Try.prog ops Q rest (a.put o.dst v') w') : wpList Try.prog ops Q (o :: rest) a w := by
  obtain ⟨i0, hi0, hz0, hz1, hz2⟩ := info_parts hinf
  have hm : M.length + 1 ≤ maxLen := by unfold maxLen; omega
  have hmul : (M.length + 1) * bytes ≤ (M.length + 1) * 8 := Nat.mul_le_mul_left _ hby
  refine wpList_append_lies w hgd s xo t ho base e i0 (.int k 0) 1 bytes ht hi0 hz0 hz1 hz2 rfl (by decide) v M.length (valsR k M) hs hown ⟨B, 0, none⟩ 1 c [.int k x] hx rfl (World.news_of_block (cs := #[.int k x]) (t := e) (fr := (0, 0)) hB) (by simp [Value.oneCell']) (by omega) hm (Nat.le_trans hmul (by omega)) hbase w.heap.size rfl ?_
  intro g cap w' h1 h2 h3 h4
  refine h _ w' (Own.app rfl h1) (Chg.grown h2) (fun j hj => ?_)
  simp only [Value.ownBlock, Option.some.injEq] at hj
  subst hj
  rcases h3 with q | q
  · exact .inl q
  · exact .inr (Nat.le_of_eq q.symm)
theorem take_mem {M : List Int} {id : Int} {j : Nat} (h : j < M.length) : decide (id ∈ M.take (j + 1)) = (decide (id ∈ M.take j) || (M.getD j 0 == id)) := by
  rw [List.take_succ_eq_append_getElem h, Bool.eq_iff_iff, decide_eq_true_eq, Bool.or_eq_true, decide_eq_true_eq, beq_iff_eq, List.mem_append, List.mem_singleton, List.getD_eq_getElem?_getD, List.getElem?_eq_getElem h, Option.getD_some]
  exact or_congr Iff.rfl eq_comm
theorem St.chg {S : Nat → Prop} {w wr u : World} {Bw : Nat} {v : Wn} (h : St w Bw v wr) (hc : Chg S wr u) (hn : ¬ S Bw) (hb : ∀ k, S k → w.heap.size ≤ k) : St w Bw v u :=
  ⟨h.1, h.2.1.trans (hc.below hb h.2.1.size), hc.blk h.blk hn⟩
theorem Inv.congr {L M : List Nat} {v : Wn} (h : Inv L v) (hm : ∀ x, x ∈ L ↔ x ∈ M) (hne : L = [] ↔ M = []) : Inv M v :=
  ⟨h.ok, h.clean, fun e => h.none (hne.2 e), fun x hx => h.some_ x ((hm x).2 hx), fun e => by
    obtain ⟨h1, h2⟩ := h.top (fun q => e (hne.1 q))
    exact ⟨(hm _).1 h1, h2⟩, fun x => by rw [h.has x, hm x]⟩
theorem Inv.snoc {L : List Nat} {v : Wn} (h : Inv L v) {n : Nat} (hn : n < topN) (hc : canW v n = true) : Inv (L ++ [n]) (putW v n) :=
  (h.put hn hc).congr (fun x => by simp; exact or_comm) (by simp)
/-- The numbers of a row. -/
def nums (T : List Nat) : List Int := List.map (fun (n : Nat) => (n : Int)) T
theorem nums_len (T : List Nat) : (nums T).length = T.length := by simp [nums]
theorem nums_mem {T : List Nat} {x : Nat} : (x : Int) ∈ nums T ↔ x ∈ T := by
  unfold nums
  rw [List.mem_map]
  constructor
  · rintro ⟨y, h1, h2⟩
    have : y = x := by omega
    rw [← this]; exact h1
  · intro h
    exact ⟨x, h, rfl⟩
theorem nums_snoc (T : List Nat) (x : Nat) : nums T ++ [(x : Int)] = nums (T ++ [x]) := by simp [nums]
theorem nums_get {T : List Nat} {j : Nat} (h : j < T.length) : (nums T).getD j 0 = ((T.getD j 0 : Nat) : Int) := by
  simp [nums, List.getD, h]
theorem max_next {v : Wn} {n t : Nat} (ht : t = v.next - 1) : max t n = (putW v n).next - 1 := by
  rw [put_next]
  omega
end Go.Proofs.Ytkdjlhnddnolaaa
