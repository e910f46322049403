/- Words on memory: blocks that turn, rows of integers, rows that a call owns, sets of 256 cells by value. -/
/- The program's sets: setOf. -/
/- The program's sets: and, falling. -/
/- Plain facts on a number's digits to the base 128 and on reading them back: no program is named here. No conditions. -/
import Derived.Test.YtgeonppckeiceaaGreatDoorRows
import Derived.Test.YtgeonppckeiceaaGreatDoorGp06
import Derived.WalkKit
import Derived.WalkSpells
import Derived.WalkLawsBesides
import Derived.StillTailTactics
import Derived.Deep.QuietTactic
import Derived.BigQuiet
import Derived.Deep.AppendLies
import Derived.Deep.WholeRow
import Derived.Laws.OwnMore
import Derived.OwnWalk
import Derived.OpenShut
namespace Go.Proofs.YtgeonppckeiceaaGreatDoor.Ms
open Go.RowKit
set_option linter.unusedVariables false
set_option linter.unusedSimpArgs false
set_option maxRecDepth 20000

/-- The world has turned at the blocks of S alone, and may have new ones. -/
structure Chg (S : Nat → Prop) (w w' : World) : Prop where
  os : w'.os = w.os
  tape : w'.tape = w.tape
  output : w'.output = w.output
  size : w.heap.size ≤ w'.heap.size
  block : ∀ k, k < w.heap.size → ¬ S k → w'.heap[k]? = w.heap[k]?
theorem Chg.of_below {S : Nat → Prop} {w w' : World} (h : Below w.heap.size w w') : Chg S w w' := ⟨h.os, h.tape, h.output, h.size, fun k hk _ => h.block k hk⟩
theorem Chg.trans {S : Nat → Prop} {a b c : World} (h : Chg S a b) (k : Chg S b c) : Chg S a c :=
  ⟨k.os.trans h.os, k.tape.trans h.tape, k.output.trans h.output, Nat.le_trans h.size k.size, fun j hj hs => (k.block j (Nat.lt_of_lt_of_le hj h.size) hs).trans (h.block j hj hs)⟩
theorem blk_lt {w : World} {g : Nat} {o : Obj} (h : w.heap[g]? = some o) : g < w.heap.size := by
  rcases Nat.lt_or_ge g w.heap.size with q | q
  · exact q
  · rw [Array.getElem?_eq_none q] at h; cases h
theorem Chg.blk {S : Nat → Prop} {w w' : World} {g : Nat} {o : Obj} (hc : Chg S w w') (h : w.heap[g]? = some o) (hn : ¬ S g) : w'.heap[g]? = some o := by
  rw [hc.block g (blk_lt h) hn]; exact h
theorem Chg.row {S : Nat → Prop} {w w' : World} {base : Nat} {e : TypeId} {size : Nat} {v : Value} {n : Nat} {xs : List Value} (hc : Chg S w w') (h : w.ownsRow base e size v n xs) (hn : ∀ k, v.ownBlock = some k → ¬ S k) : w'.ownsRow base e size v n xs := by
  refine ⟨h.1, ?_⟩
  rcases h.2 with hn0 | ⟨g, cap, cur, rfl, hb, hgg, rest⟩
  · exact .inl hn0
  · exact .inr ⟨g, cap, cur, rfl, hb, hc.blk hgg (hn g rfl), rest⟩
theorem Chg.grown {w w' : World} {row : Option Nat} (h : w.grownBy w' row) : Chg (fun k => some k = row) w w' := ⟨h.os, h.tape, h.output, h.size, fun k hk hs => h.block k hk hs⟩
theorem Chg.alloc (w : World) (o : Obj) (S : Nat → Prop) : Chg S w (w.alloc o) := .of_below ((Below.refl _ _).alloc (Nat.le_refl _) _)
theorem Chg.below {S : Nat → Prop} {w w' : World} {B : Nat} (h : Chg S w w') (hs : ∀ k, S k → B ≤ k) (hB : B ≤ w.heap.size) : Below B w w' := ⟨h.os, h.tape, h.output, h.size, fun k hk => h.block k (by omega) (fun q => by have := hs k q; omega)⟩
theorem below_alloc (w : World) (o : Obj) : Below w.heap.size w (w.alloc o) := (Below.refl _ _).alloc (Nat.le_refl _) _
theorem addr_add (b k : Nat) : (⟨b, 0, none⟩ : Addr).add k = ⟨b, k, none⟩ := by unfold Addr.add; split <;> simp_all

theorem infoI : (Tryz.prog.info? 3).map (fun i => (i.zero, i.size, i.bytes)) = some (some (.int .i64 0), 1, 8) := by kernel_rfl
theorem infoB : (Tryz.prog.info? 5).map (fun i => (i.zero, i.size, i.bytes)) = some (some (.int .u8 0), 1, 1) := by kernel_rfl

/-! ### Rows -/
/-- A row of integers of a kind, wherever it lies. -/
def RowAt (k : IntKind) (w : World) (a : Option Addr) (cap : Nat) (ks : List Int) : Prop :=
  ks.length ≤ cap ∧ cap ≤ maxLen ∧ ∃ b off, ∀ j, j < ks.length → a = some ⟨b, off, none⟩ ∧ w.cell? ⟨b, off + j, none⟩ = some (.int k (ks.getD j 0))
theorem RowAt.below {k : IntKind} {w w' : World} {a : Option Addr} {cap : Nat} {ks : List Int} (h : RowAt k w a cap ks) (hb : Below w.heap.size w w') : RowAt k w' a cap ks := by
  obtain ⟨h1, h2, b, off, h3⟩ := h
  refine ⟨h1, h2, b, off, fun j hj => ⟨(h3 j hj).1, ?_⟩⟩
  have hc := (h3 j hj).2
  rw [hb.cell (block_lt_of_cell hc)]
  exact hc
theorem RowAt.none (k : IntKind) (w : World) : RowAt k w none 0 [] := ⟨Nat.le_refl _, Nat.zero_le _, 0, 0, fun j hj => absurd hj (Nat.not_lt_zero _)⟩
theorem RowAt.len {k : IntKind} {w : World} {a : Option Addr} {cap : Nat} {ks : List Int} (h : RowAt k w a cap ks) : ks.length ≤ 9223372036854775807 := by
  have h1 := h.1
  have h2 := h.2.1
  unfold maxLen at h2
  omega
/-- A row's first numbers. -/
theorem RowAt.take {k : IntKind} {w : World} {a : Option Addr} {cap : Nat} {ks : List Int} (h : RowAt k w a cap ks) (n : Nat) : RowAt k w a cap (ks.take n) := by
  obtain ⟨h1, h2, b, off, h3⟩ := h
  refine ⟨by simp; omega, h2, b, off, fun j hj => ?_⟩
  simp only [List.length_take] at hj
  obtain ⟨q1, q2⟩ := h3 j (by omega)
  refine ⟨q1, ?_⟩
  rw [q2]
  simp only [List.getD_eq_getElem?_getD]
  rw [List.getElem?_take_of_lt (by omega)]
def valsR (k : IntKind) (xs : List Int) : List Value := xs.map (Value.int k)
/-- A row of integers that the call owns. -/
def Own (e : TypeId) (k : IntKind) (base : Nat) (v : Value) (M : List Int) (w : World) : Prop := w.ownsRow base e 1 v M.length (valsR k M)
section
variable {e : TypeId} {k : IntKind} {base : Nat} {v : Value} {M : List Int} {w w' : World}
theorem Own.nil (e : TypeId) (k : IntKind) (base : Nat) (w : World) : Own e k base (.slice none 0 0) [] w := World.ownsRow_nil _ _ _ _
theorem Own.chg {S : Nat → Prop} (h : Own e k base v M w) (hc : Chg S w w') (hn : ∀ j, v.ownBlock = some j → ¬ S j) : Own e k base v M w' := hc.row h hn
theorem Own.below (h : Own e k base v M w) (hb : Below w.heap.size w w') : Own e k base v M w' := (Chg.of_below (S := fun _ => False) hb).row h (fun _ _ q => q)
theorem Own.at (h : Own e k base v M w) : ∃ a cap, v = .slice a M.length cap ∧ RowAt k w a cap M := by
  have h' : w.ownsRow base e 1 v M.length (valsR k M) := h
  rcases h'.2 with ⟨hv, hn⟩ | ⟨g, cap, cur, hv, hg, hh, h1, h2, h3, h4⟩
  · have e : M = [] := List.eq_nil_of_length_eq_zero hn
    subst e
    exact ⟨Option.none, 0, hv, RowAt.none k w⟩
  · refine ⟨_, cap, hv, h1, h2, g, 0, fun j hj => ⟨rfl, ?_⟩⟩
    have := h'.cells (g := g) (by rw [hv]; rfl) j (.int k (M.getD j 0)) (by simp [valsR, List.getD, hj])
    rw [addr_add] at this
    rw [Nat.zero_add]
    exact this
theorem Own.rowAt {a : Option Addr} {n cap : Nat} (h : Own e k base (.slice a n cap) M w) : n = M.length ∧ RowAt k w a cap M := by
  obtain ⟨a', cap', e, hi⟩ := h.at
  injection e with e1 e2 e3
  subst e1; subst e3
  exact ⟨e2, hi⟩
theorem Own.app {x : Int} {g cap n : Nat} (hn : M.length = n) (hown : w'.ownsRow base e 1 (.slice (some ⟨g, 0, none⟩) (n + 1) cap) (n + 1) (valsR k M ++ [.int k x])) : Own e k base (.slice (some ⟨g, 0, none⟩) (n + 1) cap) (M ++ [x]) w' := by
  subst hn
  unfold Own
  rw [show (M ++ [x]).length = M.length + 1 by simp, show valsR k (M ++ [x]) = valsR k M ++ [.int k x] by simp [valsR]]
  exact hown
end
theorem getD_mem {ks : List Int} {k : Nat} (h : k < ks.length) : ks.getD k 0 ∈ ks := by simp [List.getD, h]
theorem take_getD {ks : List Int} {k : Nat} (h : k < ks.length) : ks.take (k + 1) = ks.take k ++ [ks.getD k 0] := by
  rw [List.take_add_one]
  simp [List.getD, h]

/-! ### Bytes to text -/
theorem foldl_push (l : List UInt8) : ∀ (r : ByteArray), (l.map fun c => (c.toNat : Int)).foldl (fun r n => r.push (UInt8.ofNat n.toNat)) r = ⟨r.data ++ l.toArray⟩ := by
  induction l with
  | nil => intro r; simp
  | cons c l ih =>
    intro r
    rw [List.map_cons, List.foldl_cons, ih]
    apply ByteArray.ext
    simp [ByteArray.push]
theorem conv_row {w : World} {g n : Nat} (cap : Nat) (l : List UInt8) (hn : l.length = n) (h : ∀ j, j < l.length → w.cell? ⟨g, j, none⟩ = some (.int .u8 ((l.getD j 0).toNat : Int))) :
    (convert 89 9 (.slice (some ⟨g, 0, none⟩) n cap)).run Tryz.prog w = .ok (.string ⟨l.toArray⟩) w := by
  subst hn
  rw [run_convert_bytes_string w 89 9 5 _ _ _ Tryz.underlying89 Tryz.underlying5 Tryz.underlying9]
  rw [run_bytesToString w ⟨g, 0, none⟩ l.length cap (l.map fun c => (c.toNat : Int))]
  · rw [foldl_push]; simp
  · have := run_loadCells_list (P := Tryz.prog) (w := w) ⟨g, 0, none⟩ ((l.map fun c => (c.toNat : Int)).map (Value.int .u8)) (by
      intro j v hv
      simp only [List.map_map, List.getElem?_map, Option.map_eq_some_iff] at hv
      obtain ⟨c, hc, rfl⟩ := hv
      have hj : j < l.length := by
        rcases Nat.lt_or_ge j l.length with q | q
        · exact q
        · simp [List.getElem?_eq_none q] at hc
      have := h j hj
      have e : (⟨g, 0, none⟩ : Addr).add j = ⟨g, j, none⟩ := by unfold Addr.add; simp; omega
      rw [e]
      simpa [List.getD, hc] using this)
    simpa using this
theorem conv_nil (w : World) : (convert 89 9 (.slice none 0 0)).run Tryz.prog w = .ok (.string ⟨#[]⟩) w := by
  kernel_rfl
theorem conv_one (w : World) (z : Int) (h0 : 0 ≤ z) (h1 : z < 256) : (convert 89 9 (.slice (some ⟨w.heap.size, 0, none⟩) 1 1)).run Tryz.prog (w.alloc (.cells #[.int .u8 z] 5)) = .ok (.string ⟨[UInt8.ofNat z.toNat].toArray⟩) (w.alloc (.cells #[.int .u8 z] 5)) := by
  refine conv_row 1 [UInt8.ofNat z.toNat] rfl ?_
  intro j hj
  obtain rfl : j = 0 := by simpa using hj
  have : z.toNat % 256 = z.toNat := Nat.mod_eq_of_lt (by omega)
  simp [World.cell?_alloc_at, this, Int.toNat_of_nonneg h0]
/-- A row of bytes of the call's own as text. -/
def byteL (l : List UInt8) : List Int := l.map fun c => (c.toNat : Int)
theorem conv_own {w : World} {base : Nat} {v : Value} (l : List UInt8) (h : Own 5 .u8 base v (byteL l) w) : (convert 89 9 v).run Tryz.prog w = .ok (.string ⟨l.toArray⟩) w := by
  have hl : (byteL l).length = l.length := by simp [byteL]
  rcases h.2 with ⟨hv, hn⟩ | ⟨g, cap, cur, hv, _⟩
  · have e : l = [] := List.eq_nil_of_length_eq_zero (by omega)
    subst e
    rw [hv]
    exact conv_nil w
  · subst hv
    rw [hl]
    refine conv_row cap l rfl fun j hj => ?_
    obtain ⟨_, h1, h2, b, off, h3⟩ := h.rowAt
    obtain ⟨q1, q2⟩ := h3 j (by omega)
    have h5 := World.ownsRow.cells h (g := g) rfl j (.int .u8 ((byteL l).getD j 0)) (by simp [valsR, List.getD, byteL, hj])
    rw [addr_add] at h5
    rw [h5]
    simp [byteL, List.getD, hj]

/-! ### Sets of 256 cells -/
def cellsOf (V : Nat → Bool) : Array Value := ((List.range 256).map fun j => Value.bool (V j)).toArray
theorem cellsOf_size (V : Nat → Bool) : (cellsOf V).size = 256 := by simp [cellsOf]
theorem cellsOf_at (V : Nat → Bool) {j : Nat} (h : j < 256) : (cellsOf V)[j]? = some (.bool (V j)) := by simp [cellsOf, h]
theorem cellsOf_one (V : Nat → Bool) : (cellsOf V).all (·.oneCell') = true := by
  rw [Array.all_eq_true_iff_forall_mem]
  intro v hv
  simp only [cellsOf, List.mem_toArray, List.mem_map] at hv
  obtain ⟨j, _, rfl⟩ := hv
  rfl
theorem cellsOf_ext {V W : Nat → Bool} (h : ∀ j, j < 256 → V j = W j) : cellsOf V = cellsOf W := by
  unfold cellsOf
  congr 1
  apply List.map_congr_left
  intro j hj
  rw [h j (List.mem_range.1 hj)]
theorem cellsOf_set (V : Nat → Bool) (j : Nat) (b : Bool) : (cellsOf V).setIfInBounds j (.bool b) = cellsOf (fun i => if i = j then b else V i) := by
  apply Array.ext_getElem?
  intro i
  by_cases hi : i < 256
  · rw [cellsOf_at _ hi]
    by_cases e : i = j
    · subst e
      rw [Array.getElem?_setIfInBounds_self_of_lt (by rw [cellsOf_size]; exact hi), if_pos rfl]
    · rw [Array.getElem?_setIfInBounds_ne (fun q => e q.symm), cellsOf_at _ hi, if_neg e]
  · rw [Array.getElem?_eq_none (by simp [cellsOf_size]; omega), Array.getElem?_eq_none (by rw [cellsOf_size]; omega)]
theorem cellsOf_none : cellsOf (fun _ => false) = Array.replicate 256 (.bool false) := by
  apply Array.ext_getElem?
  intro i
  by_cases hi : i < 256
  · rw [cellsOf_at _ hi]; simp [hi]
  · rw [Array.getElem?_eq_none (by rw [cellsOf_size]; omega), Array.getElem?_eq_none (by simp; omega)]
theorem zeroSet : (Tryz.prog.info? 158).map (fun i => (i.zero, i.size)) = some (some (.agg (Array.replicate 256 (.bool false))), 256) := by kernel_rfl
theorem zeroSet_run (w : World) : (zeroValue 158).run Tryz.prog w = .ok (.agg (cellsOf fun _ => false)) w := by
  rw [cellsOf_none]
  exact (zero_of_info zeroSet).1 w
theorem sizeSet : (Tryz.prog.info? 158).map (·.size) = some 256 := (zero_of_info zeroSet).2

/-! ### A number appended to a row of the call's own, beside other rows -/
def Apart (v u : Value) : Prop := ∀ k, v.ownBlock = some k → u.ownBlock ≠ some k
theorem Apart.symm {v u : Value} (h : Apart v u) : Apart u v := fun k hk hv => h k hv hk
/-- What an append leaves: the row, the world below the call's own blocks, and all rows that lie apart. -/
structure Appd (e : TypeId) (k : IntKind) (base : Nat) (v v' : Value) (M : List Int) (x : Int) (w w' : World) : Prop where
  own : Own e k base v' (M ++ [x]) w'
  low : Below base w w'
  size : w.heap.size ≤ w'.heap.size
  rest : ∀ e2 k2 b2 u M2, Own e2 k2 b2 u M2 w → Apart v u → Own e2 k2 b2 u M2 w' ∧ Apart v' u
  form : ∃ g cap, v' = .slice (some ⟨g, 0, none⟩) (M.length + 1) cap
theorem wpList_app {ops : Array Oper} {rest : List Oper} {o : Oper} {a : Act} {Q : Exit → Act → World → Prop} (hgd : o.guard = none) (s xo : Operand) (t e : TypeId) (k : IntKind) (bytes : Nat)
    (ht : Tryz.prog.underlying t = some (.slice e)) (hinf : (Tryz.prog.info? e).map (fun i => (i.zero, i.size, i.bytes)) = some (some (.int k 0), 1, bytes)) (hby : bytes ≤ 8)
    (ho : o.op = .call { callee := .builtin .append, args := #[s, xo], argTypes := #[t, t] })
    (base : Nat) (v : Value) (M : List Int) (x : Int) (w : World) (hs : a.eval s = v) (hown : Own e k base v M w)
    (B c : Nat) (hx : a.eval xo = .slice (some ⟨B, 0, none⟩) 1 c) (hB : w.heap[B]? = some (.cells #[.int k x] e (0, 0))) (hM : M.length < 100000) (hbase : base ≤ w.heap.size)
    (h : ∀ v' w', Appd e k base v v' M x w w' → wpList Tryz.prog ops Q rest (a.put o.dst v') w') : wpList Tryz.prog ops Q (o :: rest) a w := by
  obtain ⟨i0, hi0, hz0, hz1, hz2⟩ := info_parts hinf
  have hm : M.length + 1 ≤ maxLen := by unfold maxLen; omega
  have hmul : (M.length + 1) * bytes ≤ (M.length + 1) * 8 := Nat.mul_le_mul_left _ hby
  refine wpList_append_lies w hgd s xo t ho base e i0 (.int k 0) 1 bytes ht hi0 hz0 hz1 hz2 rfl (by decide) v M.length (valsR k M) hs hown ⟨B, 0, none⟩ 1 c [.int k x] hx rfl (World.news_of_block (cs := #[.int k x]) (t := e) (fr := (0, 0)) hB) (by simp [Value.oneCell']) (by omega) hm (Nat.le_trans hmul (by omega)) hbase w.heap.size rfl ?_
  intro g cap w' h1 h2 h3 h4
  refine h _ w' ⟨Own.app rfl h1, ?_, h2.size, ?_, g, cap, rfl⟩
  · exact (Chg.grown h2).below (fun j hj => (World.ownsRow.lt hown j hj.symm).1) hbase
  · intro e2 k2 b2 u M2 hu ha
    refine ⟨hu.chg (Chg.grown h2) (fun j hj hv => ha j hv.symm hj), fun j hj hu2 => ?_⟩
    simp only [Value.ownBlock, Option.some.injEq] at hj
    subst hj
    rcases h3 with q | q
    · exact ha g q hu2
    · have := (World.ownsRow.lt hu g hu2).2; omega
end Go.Proofs.YtgeonppckeiceaaGreatDoor.Ms
namespace Go.Proofs.YtgeonppckeiceaaGreatDoor.Ms
open Go.RowKit
set_option linter.unusedVariables false
set_option linter.unusedSimpArgs false
set_option maxRecDepth 100000

theorem take_snocB (s : ByteArray) (k : Nat) (h : k < s.size) : s.data.toList.take (k + 1) = s.data.toList.take k ++ [s[k]] := by
  rw [List.take_succ_eq_append_getElem (by simpa using h)]; rfl

theorem below_setRow {B g : Nat} {w w' : World} (h : Below B w w') (hg : B ≤ g) (c : Array Value) : Below B w (w'.setRow g c) :=
  ⟨h.os, h.tape, h.output, by have := h.size; simpa using this, fun k hk => (setRow_other w' g k c (by omega)).trans (h.block k hk)⟩

set_option maxHeartbeats 1000000 in
theorem setOf_any (s : ByteArray) (w : World) (hs : s.size ≤ maxLen) :
    Calls Tryz.prog 150 #[.string s] w fun e w' => e = .returned (.agg (cellsOf (inB s.data.toList))) ∧ Below w.heap.size w w' := by
  unfold maxLen at hs
  have hz := zeroSet_run
  go_enter Tryz.func150, Tryz.ntmps150
  go_wp2
  go_loopw [4, 7] (fun _ i wr => ∃ k : Nat, k ≤ s.size ∧ i = .int .i64 k ∧ wr = (w.alloc (.cells (cellsOf fun _ => false) 158)).alloc (.cells (cellsOf (inB (s.data.toList.take k))) 158)) (fun _ i _ => s.size - (intOf i).toNat)
  case atStart => exact ⟨0, Nat.zero_le _, rfl, by simp only [List.take_zero]; rfl⟩
  case round =>
    obtain ⟨k, hk, rfl, rfl⟩ := hrel
    by_cases hlt : k < s.size
    · have hlt' : (k : Int) < (s.size : Int) := by omega
      have hcb := UInt8.toNat_lt s[k]
      have hcell := cellsOf_at (inB (s.data.toList.take k)) hcb
      have HT := Lib.hid (take_snocB s k hlt)
      go_wp2
      go_roundw
      case rel =>
        refine ⟨k + 1, by omega, by go_num, ?_⟩
        congr 2
        rw [cellsOf_set, HT.out]
        refine cellsOf_ext fun j _ => ?_
        rw [inB_snoc]
        by_cases e : j = s[k].toNat
        · subst e; simp
        · rw [if_neg e]; simp; intro h; exact absurd h.symm e
      case measure => simp [intOf]; omega
    · obtain rfl : k = s.size := by omega
      have e : s.data.toList.take s.size = s.data.toList := List.take_of_length_le (by simp)
      rw [e]
      clear e hlt
      have hn : ¬ ((s.size : Int) < (s.size : Int)) := by omega
      have h2 := heap_alloc2_old w (.cells (cellsOf fun _ => false) 158) (.cells (cellsOf (inB s.data.toList)) 158)
      have h3 := heap_alloc2_new w (.cells (cellsOf fun _ => false) 158) (.cells (cellsOf (inB s.data.toList)) 158)
      have hb : Below w.heap.size w ((w.alloc (.cells (cellsOf fun _ => false) 158)).alloc (.cells (cellsOf (inB s.data.toList)) 158)) := ((Below.refl _ _).alloc (Nat.le_refl _) _).alloc (by simp) _
      generalize ((w.alloc (.cells (cellsOf fun _ => false) 158)).alloc (.cells (cellsOf (inB s.data.toList)) 158)) = w2 at h2 h3 hb ⊢
      have H2 := Lib.hid h2
      have H3 := Lib.hid h3
      clear h2 h3 hz
      go_wp2_with (refine wpList_load_row rfl 158 (.tmp 3) rfl _ rfl 158 _ _ _ H3.out Tryz.underlying158 rfl (by rw [cellsOf_size]; exact sizeSet) ?_; refine wpList_store_row rfl 158 (.tmp 2) (.tmp 15) rfl _ _ rfl rfl 158 _ H2.out (by rw [cellsOf_size]; exact sizeSet) (by simp only [cellsOf_size]) (cellsOf_one _) ?_)
      refine bodyPost_ret (v := .agg (cellsOf (inB s.data.toList))) ?_ rfl ⟨rfl, below_setRow hb (Nat.le_refl _) _⟩
      exact results_cell_row Tryz.results150 _ _ w.heap.size 158 _ (0, 0) _ rfl (setRow_heap _ _ _ _ _ _ H2.out) Tryz.underlying158 rfl (by rw [cellsOf_size]; exact sizeSet)
end Go.Proofs.YtgeonppckeiceaaGreatDoor.Ms
namespace Go.Proofs.YtgeonppckeiceaaGreatDoor.Ms
open Go.RowKit
set_option linter.unusedVariables false
set_option linter.unusedSimpArgs false
set_option maxRecDepth 100000

set_option maxHeartbeats 1000000 in
theorem and_any (V W : Nat → Bool) (w : World) :
    Calls Tryz.prog 151 #[.agg (cellsOf V), .agg (cellsOf W)] w fun e w' => e = .returned (.agg (cellsOf fun j => V j && W j)) ∧ Below w.heap.size w w' := by
  have hz := zeroSet_run
  go_enter Tryz.func151, Tryz.ntmps151
  go_wp2
  go_loopw [6, 7] (fun _ i wr => ∃ k : Nat, k ≤ 256 ∧ i = .int .i64 k ∧ wr = (((w.alloc (.cells (cellsOf V) 158)).alloc (.cells (cellsOf W) 158)).alloc (.cells (cellsOf fun _ => false) 158)).alloc (.cells (cellsOf fun j => decide (j < k) && (V j && W j)) 158)) (fun _ i _ => 256 - (intOf i).toNat)
  case atStart => exact ⟨0, Nat.zero_le _, rfl, by simp⟩
  case round =>
    obtain ⟨k, hk, rfl, rfl⟩ := hrel
    by_cases hlt : k < 256
    · have hlt' : (k : Int) < 256 := by omega
      have hc1 := cellsOf_at V hlt
      have hc2 := cellsOf_at W hlt
      have hc3 := cellsOf_at (fun j => decide (j < k) && (V j && W j)) hlt
      have hend : ∀ b, (V k && W k) = b → (cellsOf fun j => decide (j < k) && (V j && W j)).setIfInBounds k (.bool b) = cellsOf fun j => decide (j < k + 1) && (V j && W j) := by
        intro b hb
        rw [cellsOf_set]
        refine cellsOf_ext fun j _ => ?_
        by_cases e : j = k
        · subst e; simp [hb]
        · have e2 : decide (j < k + 1) = decide (j < k) := by rw [decide_eq_decide]; omega
          rw [if_neg e, e2]
      have HE := Lib.hid hend
      clear hend
      cases hv : V k
      · rw [hv] at hc1
        have HV := Lib.hid hv
        clear hv
        go_wp2
        go_roundw
        case rel => exact ⟨k + 1, by omega, by go_num, by rw [HE.out false (by rw [HV.out]; rfl)]⟩
        case measure => simp [intOf]; omega
      · rw [hv] at hc1
        have HV := Lib.hid hv
        clear hv
        cases hv : W k
        all_goals
          rw [hv] at hc2
          have HW := Lib.hid hv
          clear hv
          go_wp2
          go_roundw
          case rel => exact ⟨k + 1, by omega, by go_num, by rw [HE.out _ (by rw [HV.out, HW.out]; rfl)]⟩
          case measure => simp [intOf]; omega
    · obtain rfl : k = 256 := by omega
      have e : cellsOf (fun j => decide (j < 256) && (V j && W j)) = cellsOf fun j => V j && W j := cellsOf_ext fun j hj => by simp [hj]
      rw [e]
      clear e hlt
      generalize hA : (((w.alloc (.cells (cellsOf V) 158)).alloc (.cells (cellsOf W) 158)).alloc (.cells (cellsOf fun _ => false) 158)) = w1
      have h2 : (w1.alloc (.cells (cellsOf fun j => V j && W j) 158)).heap[w.heap.size + 1 + 1]? = some (.cells (cellsOf fun _ => false) 158 (0, 0)) := by
        rw [← hA, heap_alloc_old _ _ (by simp)]
        have := heap_alloc_new ((w.alloc (.cells (cellsOf V) 158)).alloc (.cells (cellsOf W) 158)) (.cells (cellsOf fun _ => false) 158)
        simpa using this
      have h3 : (w1.alloc (.cells (cellsOf fun j => V j && W j) 158)).heap[w.heap.size + 1 + 1 + 1]? = some (.cells (cellsOf fun j => V j && W j) 158 (0, 0)) := by
        have := heap_alloc_new w1 (.cells (cellsOf fun j => V j && W j) 158)
        rw [← hA] at this ⊢
        simpa using this
      have hb : Below w.heap.size w (w1.alloc (.cells (cellsOf fun j => V j && W j) 158)) := by
        rw [← hA]
        exact ((((Below.refl _ _).alloc (Nat.le_refl _) _).alloc (by simp) _).alloc (by simp; omega) _).alloc (by simp; omega) _
      generalize w1.alloc (.cells (cellsOf fun j => V j && W j) 158) = w2 at h2 h3 hb ⊢
      have H2 := Lib.hid h2
      have H3 := Lib.hid h3
      clear h2 h3 hz hA
      go_wp2_with (refine wpList_load_row rfl 158 (.tmp 5) rfl _ rfl 158 _ _ _ H3.out Tryz.underlying158 rfl (by rw [cellsOf_size]; exact sizeSet) ?_; refine wpList_store_row rfl 158 (.tmp 4) (.tmp 21) rfl _ _ rfl rfl 158 _ H2.out (by rw [cellsOf_size]; exact sizeSet) (by simp only [cellsOf_size]) (cellsOf_one _) ?_)
      refine bodyPost_ret (v := .agg (cellsOf fun j => V j && W j)) ?_ rfl ⟨rfl, below_setRow hb (by omega) _⟩
      exact results_cell_row Tryz.results151 _ _ (w.heap.size + 1 + 1) 158 _ (0, 0) _ rfl (setRow_heap _ _ _ _ _ _ H2.out) Tryz.underlying158 rfl (by rw [cellsOf_size]; exact sizeSet)

theorem fallTo_yes (V : Nat → Bool) {k m : Nat} (hm : m + k = 255) (hv : V m = true) : byteL (fallTo V (k + 1)) = byteL (fallTo V k) ++ [(m : Int)] := by
  obtain rfl : m = 255 - k := by omega
  have e : (UInt8.ofNat (255 - k)).toNat = 255 - k := toNat_ofNat (by omega)
  rw [fallTo, if_pos hv]
  simp only [byteL, List.map_append, List.map_cons, List.map_nil, e]
theorem fallTo_no (V : Nat → Bool) {k m : Nat} (hm : m + k = 255) (hv : V m = false) : fallTo V (k + 1) = fallTo V k := by
  obtain rfl : m = 255 - k := by omega
  rw [fallTo, if_neg (by rw [hv]; simp), List.append_nil]
theorem byteL_len (l : List UInt8) : (byteL l).length = l.length := by simp [byteL]

set_option maxHeartbeats 1000000 in
theorem falling_any (V : Nat → Bool) (w : World) :
    Calls Tryz.prog 103 #[.agg (cellsOf V)] w fun e w' => e = .returned (.string ⟨(fall V).toArray⟩) ∧ Below w.heap.size w w' := by
  go_enter Tryz.func103, Tryz.ntmps103
  go_wp2
  go_loopw [3, 4, 5, 6] (fun v _ _ i wr => ∃ k : Nat, k ≤ 255 ∧ i = .int .i64 k ∧ Hid (Own 5 .u8 (w.heap.size + 1) v (byteL (fallTo V k)) wr) ∧ Hid (Below (w.heap.size + 1) (w.alloc (.cells (cellsOf V) 158)) wr)) (fun _ _ _ i _ => 255 - (intOf i).toNat)
  case atStart => exact ⟨0, Nat.zero_le _, rfl, Lib.hid (Own.nil _ _ _ _), Lib.hid (Below.refl _ _)⟩
  case round =>
    obtain ⟨k, hk, rfl, HO, HB⟩ := hrel
    have hblk : wr.heap[w.heap.size]? = some (.cells (cellsOf V) 158 (0, 0)) := (HB.out.block _ (by omega)).trans (heap_alloc_new w _)
    by_cases hlt : k < 255
    · have hlt' : (k : Int) < 255 := by omega
      obtain ⟨m, hm⟩ : ∃ m, m + k = 255 := ⟨255 - k, by omega⟩
      have hs : (255 : Int) - (k : Int) = (m : Int) := by omega
      have hm1 : (m : Int) < 256 := by omega
      have hc : wr.cell? ⟨w.heap.size, m, none⟩ = some (.bool (V m)) := by
        rw [cell_of_row wr _ m _ _ _ hblk]
        exact cellsOf_at V (by omega)
      have HM := Lib.hid hm
      have HBL : Hid (w.heap.size + 1 ≤ wr.heap.size) := Lib.hid (by have := HB.out.size; simpa using this)
      clear hblk hm
      cases hv : V m
      · rw [hv] at hc
        have HV := Lib.hid hv
        clear hv
        go_wp2
        go_roundw
        case rel => exact ⟨k + 1, by omega, by go_num, by rw [fallTo_no V HM.out HV.out]; exact HO, HB⟩
        case measure => simp [intOf]; omega
      · rw [hv] at hc
        have HV := Lib.hid hv
        clear hv
        have HL : Hid ((byteL (fallTo V k)).length < 100000) := Lib.hid (by rw [byteL_len]; have := fallTo_len V k; omega)
        go_wp2_with (at_builtin; refine wpList_app rfl (.tmp 14) (.tmp 17) 89 5 .u8 1 Tryz.underlying89 infoB (by decide) rfl (w.heap.size + 1) _ (byteL (fallTo V k)) m _ rfl (HO.out.below (below_alloc _ _)) wr.heap.size 1 rfl (heap_alloc_new wr _) HL.out (by have := HBL.out; simp; omega) ?_; intro v' w' hA; have HA := Lib.hid hA; clear hA)
        go_roundw
        case rel => exact ⟨k + 1, by omega, by go_num, Lib.hid (by rw [fallTo_yes V HM.out HV.out]; exact HA.out.own), Lib.hid ((HB.out.trans ((Below.refl _ _).alloc HBL.out _)).trans HA.out.low)⟩
        case measure => simp [intOf]; omega
    · obtain rfl : k = 255 := by omega
      clear hlt
      have hcv := conv_own (fall V) HO.out
      have hbb : Below w.heap.size w wr := ((Below.refl w.heap.size w).alloc (Nat.le_refl _) _).trans (HB.out.mono (by omega))
      clear hblk
      go_wp2
      go_ret
      exact ⟨rfl, hbb⟩
end Go.Proofs.YtgeonppckeiceaaGreatDoor.Ms
namespace Go.Proofs.YtgeonppckeiceaaGreatDoor.Ms

/-- The digits ahead of the last one: each has 128 added. -/
def hi (n : Nat) : List UInt8 := if n = 0 then [] else hi (n / 128) ++ [UInt8.ofNat (128 + n % 128)]
termination_by n
decreasing_by omega

/-- A number's bytes. -/
def put (n : Nat) : List UInt8 := hi (n / 128) ++ [UInt8.ofNat (n % 128)]
def putS (n : Nat) : ByteArray := ⟨(put n).toArray⟩

/-- What is read from a place on: the number, the place behind, the error. -/
def look : List UInt8 → Bool → Nat → Nat → Nat × Nat × Nat
  | [], _, _, _ => (0, 0, 2)
  | c :: r, f, n, p =>
    if f = true ∧ c.toNat = 128 then (0, 0, 3)
    else if 144115188075855871 < n then (0, 0, 3)
    else if c.toNat < 128 then (n * 128 + c.toNat, p + 1, 0)
    else look r false (n * 128 + c.toNat % 128) (p + 1)

def getA (l : List UInt8) (a : Int) : Nat × Nat × Nat :=
  if a < 0 ∨ (l.length : Int) < a then (0, 0, 1) else look (l.drop a.toNat) true 0 a.toNat
def gN (s : ByteArray) (a : Int) : Int := (getA s.data.toList a).1
def gP (s : ByteArray) (a : Int) : Int := (getA s.data.toList a).2.1
def gE (s : ByteArray) (a : Int) : Int := (getA s.data.toList a).2.2

theorem look_lt (l : List UInt8) : ∀ (f : Bool) (n p : Nat), (look l f n p).1 < 18446744073709551616 ∧ (look l f n p).2.1 ≤ p + l.length := by
  induction l with
  | nil => intro f n p; simp [look]
  | cons c r ih =>
    intro f n p
    have hc := c.toNat_lt
    rw [look]
    split
    · simp
    · split
      · simp
      · split
        · simp; omega
        · have := ih false (n * 128 + c.toNat % 128) (p + 1)
          simp; omega

theorem hi_zero : hi 0 = [] := by rw [hi]; simp
theorem hi_step (n : Nat) (h : n ≠ 0) : hi n = hi (n / 128) ++ [UInt8.ofNat (128 + n % 128)] := by rw [hi]; simp [h]
theorem put_length_pos (n : Nat) : 1 ≤ (put n).length := by simp [put]

end Go.Proofs.YtgeonppckeiceaaGreatDoor.Ms
