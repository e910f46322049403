/- Words on memory: blocks that turn, rows of integers, rows that a call owns, sets of 256 cells by value. -/
import Derived.Test.YtpbcndbmmphngaaRows
import Derived.Lib.Hide
import Derived.WalkKit
import Derived.WalkSpells
import Derived.WalkLawsBesides
import Derived.StillTailTactics
import Derived.Deep.QuietTactic
import Derived.BigQuiet
import Derived.Deep.AppendLies
import Derived.Deep.WholeRow
import Derived.Laws.OwnMore
import Derived.OwnWalk
import Derived.OpenShut
namespace Go.Proofs.Ytpbcndbmmphngaa
open Go.RowKit
set_option linter.unusedVariables false
set_option linter.unusedSimpArgs false
set_option maxRecDepth 20000

/-- The world has turned at the blocks of S alone, and may have new ones. -/
structure Chg (S : Nat → Prop) (w w' : World) : Prop where
  os : w'.os = w.os
  tape : w'.tape = w.tape
  output : w'.output = w.output
  size : w.heap.size ≤ w'.heap.size
  block : ∀ k, k < w.heap.size → ¬ S k → w'.heap[k]? = w.heap[k]?
theorem Chg.of_below {S : Nat → Prop} {w w' : World} (h : Below w.heap.size w w') : Chg S w w' := ⟨h.os, h.tape, h.output, h.size, fun k hk _ => h.block k hk⟩
theorem Chg.trans {S : Nat → Prop} {a b c : World} (h : Chg S a b) (k : Chg S b c) : Chg S a c :=
  ⟨k.os.trans h.os, k.tape.trans h.tape, k.output.trans h.output, Nat.le_trans h.size k.size, fun j hj hs => (k.block j (Nat.lt_of_lt_of_le hj h.size) hs).trans (h.block j hj hs)⟩
theorem blk_lt {w : World} {g : Nat} {o : Obj} (h : w.heap[g]? = some o) : g < w.heap.size := by
  rcases Nat.lt_or_ge g w.heap.size with q | q
  · exact q
  · rw [Array.getElem?_eq_none q] at h; cases h
theorem Chg.blk {S : Nat → Prop} {w w' : World} {g : Nat} {o : Obj} (hc : Chg S w w') (h : w.heap[g]? = some o) (hn : ¬ S g) : w'.heap[g]? = some o := by
  rw [hc.block g (blk_lt h) hn]; exact h
theorem Chg.row {S : Nat → Prop} {w w' : World} {base : Nat} {e : TypeId} {size : Nat} {v : Value} {n : Nat} {xs : List Value} (hc : Chg S w w') (h : w.ownsRow base e size v n xs) (hn : ∀ k, v.ownBlock = some k → ¬ S k) : w'.ownsRow base e size v n xs := by
  refine ⟨h.1, ?_⟩
  rcases h.2 with hn0 | ⟨g, cap, cur, rfl, hb, hgg, rest⟩
  · exact .inl hn0
  · exact .inr ⟨g, cap, cur, rfl, hb, hc.blk hgg (hn g rfl), rest⟩
theorem Chg.grown {w w' : World} {row : Option Nat} (h : w.grownBy w' row) : Chg (fun k => some k = row) w w' := ⟨h.os, h.tape, h.output, h.size, fun k hk hs => h.block k hk hs⟩
theorem Chg.alloc (w : World) (o : Obj) (S : Nat → Prop) : Chg S w (w.alloc o) := .of_below ((Below.refl _ _).alloc (Nat.le_refl _) _)
theorem Chg.below {S : Nat → Prop} {w w' : World} {B : Nat} (h : Chg S w w') (hs : ∀ k, S k → B ≤ k) (hB : B ≤ w.heap.size) : Below B w w' := ⟨h.os, h.tape, h.output, h.size, fun k hk => h.block k (by omega) (fun q => by have := hs k q; omega)⟩
theorem below_alloc (w : World) (o : Obj) : Below w.heap.size w (w.alloc o) := (Below.refl _ _).alloc (Nat.le_refl _) _
theorem addr_add (b k : Nat) : (⟨b, 0, none⟩ : Addr).add k = ⟨b, k, none⟩ := by unfold Addr.add; split <;> simp_all

theorem infoI : (Try.prog.info? 3).map (fun i => (i.zero, i.size, i.bytes)) = some (some (.int .i64 0), 1, 8) := by kernel_rfl

/-! ### Rows -/
/-- A row of integers of a kind, wherever it lies. -/
def RowAt (k : IntKind) (w : World) (a : Option Addr) (cap : Nat) (ks : List Int) : Prop :=
  ks.length ≤ cap ∧ cap ≤ maxLen ∧ ∃ b off, ∀ j, j < ks.length → a = some ⟨b, off, none⟩ ∧ w.cell? ⟨b, off + j, none⟩ = some (.int k (ks.getD j 0))
theorem RowAt.below {k : IntKind} {w w' : World} {a : Option Addr} {cap : Nat} {ks : List Int} (h : RowAt k w a cap ks) (hb : Below w.heap.size w w') : RowAt k w' a cap ks := by
  obtain ⟨h1, h2, b, off, h3⟩ := h
  refine ⟨h1, h2, b, off, fun j hj => ⟨(h3 j hj).1, ?_⟩⟩
  have hc := (h3 j hj).2
  rw [hb.cell (block_lt_of_cell hc)]
  exact hc
theorem RowAt.none (k : IntKind) (w : World) : RowAt k w none 0 [] := ⟨Nat.le_refl _, Nat.zero_le _, 0, 0, fun j hj => absurd hj (Nat.not_lt_zero _)⟩
theorem RowAt.len {k : IntKind} {w : World} {a : Option Addr} {cap : Nat} {ks : List Int} (h : RowAt k w a cap ks) : ks.length ≤ 9223372036854775807 := by
  have h1 := h.1
  have h2 := h.2.1
  unfold maxLen at h2
  omega
/-- A row's first numbers. -/
theorem RowAt.take {k : IntKind} {w : World} {a : Option Addr} {cap : Nat} {ks : List Int} (h : RowAt k w a cap ks) (n : Nat) : RowAt k w a cap (ks.take n) := by
  obtain ⟨h1, h2, b, off, h3⟩ := h
  refine ⟨by simp; omega, h2, b, off, fun j hj => ?_⟩
  simp only [List.length_take] at hj
  obtain ⟨q1, q2⟩ := h3 j (by omega)
  refine ⟨q1, ?_⟩
  rw [q2]
  simp only [List.getD_eq_getElem?_getD]
  rw [List.getElem?_take_of_lt (by omega)]
def valsR (k : IntKind) (xs : List Int) : List Value := xs.map (Value.int k)
/-- A row of integers that the call owns. -/
def Own (e : TypeId) (k : IntKind) (base : Nat) (v : Value) (M : List Int) (w : World) : Prop := w.ownsRow base e 1 v M.length (valsR k M)
section
variable {e : TypeId} {k : IntKind} {base : Nat} {v : Value} {M : List Int} {w w' : World}
theorem Own.nil (e : TypeId) (k : IntKind) (base : Nat) (w : World) : Own e k base (.slice none 0 0) [] w := World.ownsRow_nil _ _ _ _
theorem Own.new (e : TypeId) (k : IntKind) (w : World) (hb : base ≤ w.heap.size) : Own e k base (.slice (some ⟨w.heap.size, 0, none⟩) 0 0) [] (w.alloc (.cells #[] e)) :=
  World.ownsRow_made w #[] 0 hb (Nat.zero_le _) rfl
theorem Own.chg {S : Nat → Prop} (h : Own e k base v M w) (hc : Chg S w w') (hn : ∀ j, v.ownBlock = some j → ¬ S j) : Own e k base v M w' := hc.row h hn
theorem Own.below (h : Own e k base v M w) (hb : Below w.heap.size w w') : Own e k base v M w' := (Chg.of_below (S := fun _ => False) hb).row h (fun _ _ q => q)
theorem Own.at (h : Own e k base v M w) : ∃ a cap, v = .slice a M.length cap ∧ RowAt k w a cap M := by
  have h' : w.ownsRow base e 1 v M.length (valsR k M) := h
  rcases h'.2 with ⟨hv, hn⟩ | ⟨g, cap, cur, hv, hg, hh, h1, h2, h3, h4⟩
  · have e : M = [] := List.eq_nil_of_length_eq_zero hn
    subst e
    exact ⟨Option.none, 0, hv, RowAt.none k w⟩
  · refine ⟨_, cap, hv, h1, h2, g, 0, fun j hj => ⟨rfl, ?_⟩⟩
    have := h'.cells (g := g) (by rw [hv]; rfl) j (.int k (M.getD j 0)) (by simp [valsR, List.getD, hj])
    rw [addr_add] at this
    rw [Nat.zero_add]
    exact this
theorem Own.rowAt {a : Option Addr} {n cap : Nat} (h : Own e k base (.slice a n cap) M w) : n = M.length ∧ RowAt k w a cap M := by
  obtain ⟨a', cap', e, hi⟩ := h.at
  injection e with e1 e2 e3
  subst e1; subst e3
  exact ⟨e2, hi⟩
theorem Own.app {x : Int} {g cap n : Nat} (hn : M.length = n) (hown : w'.ownsRow base e 1 (.slice (some ⟨g, 0, none⟩) (n + 1) cap) (n + 1) (valsR k M ++ [.int k x])) : Own e k base (.slice (some ⟨g, 0, none⟩) (n + 1) cap) (M ++ [x]) w' := by
  subst hn
  unfold Own
  rw [show (M ++ [x]).length = M.length + 1 by simp, show valsR k (M ++ [x]) = valsR k M ++ [.int k x] by simp [valsR]]
  exact hown
theorem Own.lit (w : World) (xs : List Int) (hm : xs.length ≤ maxLen) : Own e k w.heap.size (.slice (some ⟨w.heap.size, 0, none⟩) xs.length xs.length) xs (w.alloc (.cells (valsR k xs).toArray e)) :=
  World.ownsRow_lit w (valsR k xs).toArray xs.length (Nat.le_refl _) hm (by simp [valsR])
end
theorem lit_row (k : IntKind) (e : TypeId) (w : World) (xs : List Int) (hm : xs.length ≤ maxLen) : RowAt k (w.alloc (.cells (valsR k xs).toArray e)) (some ⟨w.heap.size, 0, none⟩) xs.length xs :=
  (Own.rowAt (Own.lit (e := e) (k := k) w xs hm)).2
theorem getD_mem {ks : List Int} {k : Nat} (h : k < ks.length) : ks.getD k 0 ∈ ks := by simp [List.getD, h]
theorem take_getD {ks : List Int} {k : Nat} (h : k < ks.length) : ks.take (k + 1) = ks.take k ++ [ks.getD k 0] := by
  rw [List.take_add_one]
  simp [List.getD, h]

/-! ### A number appended to a row of the call's own, beside other rows -/
def Apart (v u : Value) : Prop := ∀ k, v.ownBlock = some k → u.ownBlock ≠ some k
theorem Apart.symm {v u : Value} (h : Apart v u) : Apart u v := fun k hk hv => h k hv hk
theorem Apart.nil (v : Value) : Apart v (.slice none 0 0) := fun k _ h => by simp [Value.ownBlock] at h
/-- What an append leaves: the row, the world below the call's own blocks, and all rows that lie apart. -/
structure Appd (e : TypeId) (k : IntKind) (base : Nat) (v v' : Value) (M : List Int) (x : Int) (w w' : World) : Prop where
  own : Own e k base v' (M ++ [x]) w'
  low : Below base w w'
  size : w.heap.size ≤ w'.heap.size
  rest : ∀ e2 k2 b2 u M2, Own e2 k2 b2 u M2 w → Apart v u → Own e2 k2 b2 u M2 w' ∧ Apart v' u
  form : ∃ g cap, v' = .slice (some ⟨g, 0, none⟩) (M.length + 1) cap
theorem wpList_app {ops : Array Oper} {rest : List Oper} {o : Oper} {a : Act} {Q : Exit → Act → World → Prop} (hgd : o.guard = none) (s xo : Operand) (t e : TypeId) (k : IntKind) (bytes : Nat)
    (ht : Try.prog.underlying t = some (.slice e)) (hinf : (Try.prog.info? e).map (fun i => (i.zero, i.size, i.bytes)) = some (some (.int k 0), 1, bytes)) (hby : bytes ≤ 8)
    (ho : o.op = .call { callee := .builtin .append, args := #[s, xo], argTypes := #[t, t] })
    (base : Nat) (v : Value) (M : List Int) (x : Int) (w : World) (hs : a.eval s = v) (hown : Own e k base v M w)
    (B c : Nat) (hx : a.eval xo = .slice (some ⟨B, 0, none⟩) 1 c) (hB : w.heap[B]? = some (.cells #[.int k x] e (0, 0))) (hM : M.length < 100000) (hbase : base ≤ w.heap.size)
    (h : ∀ v' w', Appd e k base v v' M x w w' → wpList Try.prog ops Q rest (a.put o.dst v') w') : wpList Try.prog ops Q (o :: rest) a w := by
  obtain ⟨i0, hi0, hz0, hz1, hz2⟩ := info_parts hinf
  have hm : M.length + 1 ≤ maxLen := by unfold maxLen; omega
  have hmul : (M.length + 1) * bytes ≤ (M.length + 1) * 8 := Nat.mul_le_mul_left _ hby
  refine wpList_append_lies w hgd s xo t ho base e i0 (.int k 0) 1 bytes ht hi0 hz0 hz1 hz2 rfl (by decide) v M.length (valsR k M) hs hown ⟨B, 0, none⟩ 1 c [.int k x] hx rfl (World.news_of_block (cs := #[.int k x]) (t := e) (fr := (0, 0)) hB) (by simp [Value.oneCell']) (by omega) hm (Nat.le_trans hmul (by omega)) hbase w.heap.size rfl ?_
  intro g cap w' h1 h2 h3 h4
  refine h _ w' ⟨Own.app rfl h1, ?_, h2.size, ?_, g, cap, rfl⟩
  · exact (Chg.grown h2).below (fun j hj => (World.ownsRow.lt hown j hj.symm).1) hbase
  · intro e2 k2 b2 u M2 hu ha
    refine ⟨hu.chg (Chg.grown h2) (fun j hj hv => ha j hv.symm hj), fun j hj hu2 => ?_⟩
    simp only [Value.ownBlock, Option.some.injEq] at hj
    subst hj
    rcases h3 with q | q
    · exact ha g q hu2
    · have := (World.ownsRow.lt hu g hu2).2; omega
end Go.Proofs.Ytpbcndbmmphngaa
