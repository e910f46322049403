/- Entries: a row copied, a row that entries are struck out of, Drop of the program. -/
import Derived.Test.YtpbcndbmmphngaaSkpF
namespace Go.Proofs.Ytpbcndbmmphngaa
open Go.RowKit
set_option linter.unusedVariables false
set_option linter.unusedSimpArgs false
set_option maxRecDepth 20000
/-- Entries that lie anywhere are appended to a row of the call's own, if there are any. -/
theorem wpList_appE1 {ops : Array Oper} {rest : List Oper} {o : Oper} {a : Act} {Q : Exit → Act → World → Prop} (hgd : o.guard = none) (s xo : Operand) (t e : TypeId)
    (ht : Try.prog.underlying t = some (.slice e)) (hinf : (Try.prog.info? e).map (fun i => (i.zero, i.size, i.bytes)) = some (some zeroE.v, 4, 32))
    (ho : o.op = .call { callee := .builtin .append, args := #[s, xo], argTypes := #[t, t] })
    (base : Nat) (v : Value) (M N : List En) (w : World) (hs : a.eval s = v) (hown : OwnE e base v M w)
    (x : Addr) (n c : Nat) (hn : N.length = n) (hx : a.eval xo = .slice (some x) n c) (hB : ∀ j u, (cellsE N)[j]? = some u → w.cell? (x.add j) = some u) (hM : M.length + n < 100000) (hbase : base ≤ w.heap.size)
    (h : ∀ v' w', OwnE e base v' (M ++ N) w' → Below base w w' → w.heap.size ≤ w'.heap.size → wpList Try.prog ops Q rest (a.put o.dst v') w') : wpList Try.prog ops Q (o :: rest) a w := by
  obtain ⟨i0, hi0, hz0, hz1, hz2⟩ := info4 hinf
  have hm : M.length + n ≤ maxLen := by unfold maxLen; omega
  refine wpList_append_own w hgd s xo t ho base e i0 zeroE.v 4 32 ht hi0 hz0 hz1 hz2 rfl (by decide) v M.length (cellsE M) hs hown x n c (cellsE N) hx (by rw [cellsE_len, hn]) (fun j u hu => hB j u hu) (cellsE_one N) hm (by omega) hbase ?_
  intro v' w' h1 h2 h3
  have hl : (M ++ N).length = M.length + n := by simp [hn]
  have hO : OwnE e base v' (M ++ N) w' := by
    unfold OwnE
    rw [hl, cellsE_app]
    exact h1
  exact h _ w' hO ((Chg.grown h2).below (fun j hj => (World.ownsRow.lt hown j hj.symm).1) hbase) h2.size
set_option maxHeartbeats 2000000 in
theorem clone_e (a : Option Addr) (n cap : Nat) (fs : List En) (w : World) (hn : n = fs.length) (h : RowE w a cap fs) (hm : n ≤ 1000) :
    Calls Try.prog 22 #[.slice a n cap] w fun e w' => ∃ v, e = .returned v ∧ OwnE 33 w.heap.size v fs w' ∧ Below w.heap.size w w' := by
  have HR := Lib.hid h
  have HN := Lib.hid hn
  clear h hn
  cases a with
  | none =>
    have HE : Hid (fs = []) := Lib.hid (by
      obtain ⟨_, _, b, off, h3⟩ := HR.out
      cases fs with
      | nil => rfl
      | cons x r => have := (h3 0 (by simp)).1; cases this)
    have hq : ∀ w : World, (binOp .eql 24 (.slice none n cap) (.slice none 0 0)).run Try.prog w = .ok (.bool true) w := fun w => Lib.run_eql_slice_nil w _ 33 none n cap 0 0 Try.underlying24
    go_enter Try.func22, Try.ntmps22
    go_wp2
    go_ret
    exact ⟨_, rfl, by rw [HE.out]; exact OwnE.nil _ _ _, Below.refl _ _⟩
  | some x =>
    have HC : Hid (∀ j u, (cellsE fs)[j]? = some u → w.cell? (x.add j) = some u) := Lib.hid (by
      cases hf : fs with
      | nil => intro j u hu; simp [cellsE] at hu
      | cons y r =>
        obtain ⟨b, off, e, _⟩ := erow_cell HR.out (j := 0) (by rw [hf]; simp)
        injection e with e
        subst e
        intro j u hu
        have := news_row HR.out 0 j u (by rw [hf]; exact hu)
        rw [addE]
        simpa using this)
    have HB := Lib.hid (below_alloc w (.cells #[] 33 : Obj))
    have HO := Lib.hid (OwnE.new 33 w (Nat.le_refl _))
    have HM := Lib.hid hm
    have HS : Hid (Below w.heap.size w (w.alloc (.cells #[] 33 : Obj)) ∧ ∀ j u, (cellsE fs)[j]? = some u → (w.alloc (.cells #[] 33 : Obj)).cell? (x.add j) = some u) := Lib.hid ⟨HB.out, fun j u hu => (HB.out.cell (block_lt_of_cell (HC.out j u hu))).trans (HC.out j u hu)⟩
    clear hm HC HB
    have hq : ∀ w : World, (binOp .eql 24 (.slice (some x) n cap) (.slice none 0 0)).run Try.prog w = .ok (.bool false) w := fun w => Lib.run_eql_slice_nil w _ 33 (some x) n cap 0 0 Try.underlying24
    go_enter Try.func22, Try.ntmps22
    go_wp2_with (at_builtin; refine wpList_appE1 rfl (.tmp 5) (.tmp 6) 24 33 Try.underlying24 infoE rfl w.heap.size _ [] fs _ rfl HO.out x n cap HN.out.symm rfl HS.out.2 (by have := HM.out; simp; omega) (by simp) ?_; intro v' w2 h1 h2 h3; have HA := Lib.hid (And.intro h1 (And.intro h2 h3)); clear h1 h2 h3)
    go_ret
    exact ⟨_, rfl, by have := HA.out.1; simpa using this, HS.out.1.trans HA.out.2.1⟩
/-! Struck out. -/
section
variable {p : En → Bool} {L D : List En} {i j n : Nat}
theorem strike_keep (hn : D.length = n) (hij : i < j) (hj : j < n) (ht : D.take i = (L.take j).filter (fun x => !p x)) (hd : D.drop j = L.drop j) (hl : L.length = n) (hp : p (L.getD j zeroE) = false) :
    (D.set i (L.getD j zeroE)).take (i + 1) = (L.take (j + 1)).filter (fun x => !p x) ∧ (D.set i (L.getD j zeroE)).drop (j + 1) = L.drop (j + 1) := by
  refine ⟨?_, ?_⟩
  · rw [take_getE (fs := L) (by omega), List.filter_append, ← ht, List.filter_cons_of_pos (by rw [hp]; rfl), List.filter_nil, take_getE (by simp; omega)]
    congr 1
    · rw [List.take_set_of_le (Nat.le_refl _)]
    · simp [List.getD, show i < D.length by omega]
  · rw [List.drop_set_of_lt (by omega)]
    have e1 : D.drop (j + 1) = (D.drop j).drop 1 := by rw [List.drop_drop]
    rw [e1, hd, List.drop_drop]
theorem strike_skip (hn : D.length = n) (hj : j < n) (ht : D.take i = (L.take j).filter (fun x => !p x)) (hd : D.drop j = L.drop j) (hl : L.length = n) (hp : p (L.getD j zeroE) = true) :
    D.take i = (L.take (j + 1)).filter (fun x => !p x) ∧ D.drop (j + 1) = L.drop (j + 1) := by
  refine ⟨?_, ?_⟩
  · rw [take_getE (fs := L) (by omega), List.filter_append, ← ht, List.filter_cons_of_neg (by simpa using hp), List.filter_nil, List.append_nil]
  · have e1 : D.drop (j + 1) = (D.drop j).drop 1 := by rw [List.drop_drop]
    rw [e1, hd, List.drop_drop]
theorem strike_at (hj : j < n) (hd : D.drop j = L.drop j) (hn : D.length = n) (hl : L.length = n) : D.getD j zeroE = L.getD j zeroE := by
  have : (D.drop j)[0]? = (L.drop j)[0]? := by rw [hd]
  simp only [List.getElem?_drop, Nat.add_zero] at this
  simp [List.getD, this]
theorem strike_first (hi : L.findIdx p = i) (h : i < L.length) : L.take i = (L.take (i + 1)).filter (fun x => !p x) := by
  have hp : p (L.getD i zeroE) = true := by
    have : p L[i] = true := by
      have := List.findIdx_getElem (p := p) (xs := L) (w := by rw [hi]; exact h)
      simpa [hi] using this
    simpa [List.getD, h] using this
  rw [take_getE h, List.filter_append, List.filter_cons_of_neg (by simpa using hp), List.filter_nil, List.append_nil, List.filter_eq_self.2]
  intro x hx
  obtain ⟨k, hk, rfl⟩ := List.mem_take_iff_getElem.1 hx
  have hk2 : k < L.findIdx p := by omega
  have := List.not_of_lt_findIdx hk2
  simpa using this
theorem strike_none (h : ¬ L.findIdx p < L.length) : L.filter (fun x => !p x) = L := by
  have h1 : L.findIdx p = L.length := by have := List.findIdx_le_length (xs := L) (p := p); omega
  rw [List.findIdx_eq_length] at h1
  rw [List.filter_eq_self.2]
  intro x hx
  simp [h1 x hx]
end
end Go.Proofs.Ytpbcndbmmphngaa
