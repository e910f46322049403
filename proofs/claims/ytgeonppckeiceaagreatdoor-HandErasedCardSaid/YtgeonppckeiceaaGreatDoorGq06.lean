/- Messages: what a message is, the fields of each kind, what may stand in each. -/
/- A region that draws its order, with operations of which many make memory: whatever order is drawn, by ONE invariant that every operation keeps. -/
/- A store beside a row of integers that the call owns and appends to: as one thing that the other store's calls leave alone. -/
/- The program's and the document's public keys and shared secrets, as functions of a store's terms: contracts of all their calls. -/
/- What public keys and shared secrets are named, where there is room. -/
import Derived.Test.YtgeonppckeiceaaGreatDoorGq05
import Derived.Deep.RegionHeld3
import Derived.StillTail
import Derived.Test.YtgeonppckeiceaaGreatDoorGq03
namespace Go.Proofs.YtgeonppckeiceaaGreatDoor.Ms
open Go.RowKit
set_option linter.unusedVariables false
set_option linter.unusedSimpArgs false
structure Ms where
 i : Nat → Int
 s : ByteArray
def Ms.cl (M : Ms) : Array Value := #[.int .i64 (M.i 0), .int .u64 (M.i 1), .int .u64 (M.i 2), .string M.s, .int .i64 (M.i 4), .int .i64 (M.i 5), .int .i64 (M.i 6), .int .i64 (M.i 7), .int .i64 (M.i 8), .int .i64 (M.i 9), .int .i64 (M.i 10), .int .u64 (M.i 11), .int .u64 (M.i 12)]
def Ms.v (M : Ms) : Value := .agg M.cl
def Ms.set (M : Ms) (j : Nat) (x : Int) : Ms := { M with i := fun k => if k = j then x else M.i k }
def Ms.setS (M : Ms) (t : ByteArray) : Ms := { M with s := t }
def uCell (j : Nat) : Bool := j == 1 || j == 2 || j == 11 || j == 12
def nCell (j : Nat) : Bool := decide (j < 13) && !(j == 3)
def kCell (j : Nat) : IntKind := if uCell j then .u64 else .i64
structure Ms.Wf (M : Ms) : Prop where
 n : ∀ j, nCell j = true → (Lit.int (kCell j) (M.i j)).wf = true
 s : M.s.size ≤ maxLen
inductive Fd where
 | int (j : Nat) (lo hi : Int)
 | ses (j : Nat) (lo hi : Int)
 | nam (j : Nat)
 | ver
def fds : Int → List Fd
 | 1 => [.ses 1 1 4294967296, .ver, .int 4 0 1, .nam 6, .nam 7, .nam 8, .nam 9, .nam 10]
 | 2 => [.ses 1 1 4294967296, .ses 2 1 4294967296, .nam 6, .nam 8, .nam 9]
 | 3 => [.ses 2 1 4294967296, .int 5 1 15]
 | 4 => [.ses 2 1 4294967296, .ses 11 0 1000, .ses 12 0 255, .nam 9]
 | _ => []
def Fd.Fit : Fd → Prop
 | .int j lo hi => (j = 4 ∨ j = 5) ∧ 0 ≤ lo ∧ lo ≤ 1 ∧ 1 ≤ hi ∧ hi ≤ 15
 | .ses j lo hi => (j = 1 ∨ j = 2 ∨ j = 11 ∨ j = 12) ∧ 0 ≤ lo ∧ lo ≤ 1 ∧ 1 ≤ hi ∧ hi ≤ 4294967296
 | .nam j => 6 ≤ j ∧ j ≤ 10
 | .ver => True
def inIv (lo hi x : Int) : Bool := decide (lo ≤ x) && decide (x ≤ hi)
def Fd.ok (M : Ms) : Fd → Bool
 | .int j lo hi => inIv lo hi (M.i j)
 | .ses j lo hi => inIv lo hi (M.i j)
 | .nam j => inIv 1 1048576 (M.i j)
 | .ver => rightB M.s.data.toList
def Fd.emp (M : Ms) : Fd → Ms
 | .int j _ _ => M.set j 0
 | .ses j _ _ => M.set j 0
 | .nam j => M.set j 0
 | .ver => M.setS ByteArray.empty
def u64 (x : Int) : Nat := (IntKind.u64.wrap x).toNat
def ptr (q j : Nat) : Value := .pointer (some ⟨q, j, none⟩)
def Fd.ty : Fd → TypeId
 | .int .. => 173
 | .ses .. => 229
 | .nam _ => 175
 | .ver => 234
def Fd.rcv (q : Nat) : Fd → Value
 | .int j lo hi => .agg #[ptr q j, .int .u64 lo, .int .u64 hi]
 | .ses j lo hi => .agg #[ptr q j, .int .u64 lo, .int .u64 hi]
 | .nam j => .agg #[ptr q j, .int .u64 1, .int .u64 1048576]
 | .ver => .agg #[ptr q 3]
def Fd.v (q : Nat) (f : Fd) : Value := .iface f.ty (f.rcv q)
def fdsV (q : Nat) (k : Int) : Array Value := ((fds k).map (Fd.v q)).toArray
def MsgAt (w : World) (q : Nat) (M : Ms) : Prop := w.heap[q]? = some (.cells M.cl 25 (0, 0))
theorem frz_of_row {w : World} {g : Nat} (j : Nat) {cs : Array Value} {t : TypeId} (h : w.heap[g]? = some (.cells cs t (0, 0))) : w.frozen? ⟨g, j, none⟩ = false := by simp [World.frozen?, h]
theorem cell_at {w : World} {g : Nat} (j : Nat) {cs : Array Value} {t : TypeId} {p : Nat × Nat} (h : w.heap[g]? = some (.cells cs t p)) : w.cell? ⟨g, j, none⟩ = cs[j]? := by simp [World.cell?, h]
theorem row_set {w : World} {b : Nat} {cs : Array Value} {t : TypeId} (i : Nat) (v : Value) (h : w.heap[b]? = some (.cells cs t (0, 0))) : (w.setCell ⟨b, i, none⟩ v).heap[b]? = some (.cells (cs.setIfInBounds i v) t (0, 0)) := by
 have hlt := blk_lt h
 have h' : w.heap[b] = .cells cs t (0, 0) := by simpa [Array.getElem?_eq_getElem hlt] using h
 show (w.heap.modify b _)[b]? = _
 rw [Array.getElem?_eq_getElem (by simpa using hlt), Array.getElem_modify_self, h']
 rfl
theorem Chg.setCell (w : World) (b i : Nat) (v : Value) : Chg (fun k => k = b) w (w.setCell ⟨b, i, none⟩ v) :=
 ⟨rfl, rfl, rfl, by simp, fun k hk hs => heap_setCell_other _ _ _ _ (by exact hs)⟩
theorem MsgAt.lt {w : World} {q : Nat} {M : Ms} (h : MsgAt w q M) : q < w.heap.size := blk_lt h
theorem MsgAt.below {w w' : World} {q : Nat} {M : Ms} (h : MsgAt w q M) (hb : Below w.heap.size w w') : MsgAt w' q M := (hb.block q h.lt).trans h
theorem Ms.cl_at (M : Ms) {j : Nat} (h : nCell j = true) : M.cl[j]? = some (.int (kCell j) (M.i j)) := by
 simp only [nCell, Bool.and_eq_true, decide_eq_true_eq, Bool.not_eq_true', beq_eq_false_iff_ne, ne_eq] at h
 match j, h with
 | 0, _ => rfl
 | 1, _ => rfl
 | 2, _ => rfl
 | 3, h => exact absurd rfl h.2
 | 4, _ => rfl
 | 5, _ => rfl
 | 6, _ => rfl
 | 7, _ => rfl
 | 8, _ => rfl
 | 9, _ => rfl
 | 10, _ => rfl
 | 11, _ => rfl
 | 12, _ => rfl
 | n + 13, h => omega
theorem Ms.cl_s (M : Ms) : M.cl[3]? = some (.string M.s) := rfl
theorem Ms.cl_set (M : Ms) {j : Nat} (x : Int) (h : nCell j = true) : M.cl.setIfInBounds j (.int (kCell j) x) = (M.set j x).cl := by
 simp only [nCell, Bool.and_eq_true, decide_eq_true_eq, Bool.not_eq_true', beq_eq_false_iff_ne, ne_eq] at h
 match j, h with
 | 0, _ => rfl
 | 1, _ => rfl
 | 2, _ => rfl
 | 3, h => exact absurd rfl h.2
 | 4, _ => rfl
 | 5, _ => rfl
 | 6, _ => rfl
 | 7, _ => rfl
 | 8, _ => rfl
 | 9, _ => rfl
 | 10, _ => rfl
 | 11, _ => rfl
 | 12, _ => rfl
 | n + 13, h => omega
theorem MsgAt.set {w : World} {q j : Nat} {M : Ms} {k : IntKind} (h : MsgAt w q M) (hj : nCell j = true) (hk : k = kCell j) (x : Int) : MsgAt (w.setCell ⟨q, j, none⟩ (.int k x)) q (M.set j x) := by
 have := row_set j (.int k x) h
 subst hk
 rw [M.cl_set x hj] at this
 exact this
theorem MsgAt.setS {w : World} {q : Nat} {M : Ms} (h : MsgAt w q M) (t : ByteArray) : MsgAt (w.setCell ⟨q, 3, none⟩ (.string t)) q (M.setS t) := row_set 3 (.string t) h
theorem MsgAt.cell {w : World} {q j : Nat} {M : Ms} (h : MsgAt w q M) (hj : nCell j = true) : w.cell? ⟨q, j, none⟩ = some (.int (kCell j) (M.i j)) := by rw [cell_at j h, M.cl_at hj]
theorem MsgAt.cellS {w : World} {q : Nat} {M : Ms} (h : MsgAt w q M) : w.cell? ⟨q, 3, none⟩ = some (.string M.s) := by rw [cell_at 3 h, M.cl_s]
def downB (md : Region.Mode) (ops : Array Oper) : Bool := (List.range ops.size).all fun i => match ops[i]? with
 | some o => o.after.all fun e => !Region.binds md e || decide (e.on < i)
 | none => true
theorem ready_none {md : Region.Mode} {ops : Array Oper} {listed : Array Bool} (hd : downB md ops = true) (hr : Region.ready md ops listed = []) :
  ∀ n i, i < n → i < ops.size → listed.getD i true = true := by
 intro n
 induction n with
 | zero => intro i h; omega
 | succ n ih =>
  intro i hin hi
  by_cases hlt : i < n
  ·exact ih i hlt hi
  ·obtain rfl : i = n := by omega
   cases hl : listed.getD i true with
   | true => rfl
   | false =>
    exfalso
    have hmem : i ∈ Region.ready md ops listed := by
     rw [mem_ready]
     refine ⟨hl, ops[i], Array.getElem?_eq_getElem hi, fun e he hb => ?_⟩
     have h1 := List.all_eq_true.1 hd i (List.mem_range.2 hi)
     simp only [Array.getElem?_eq_getElem hi] at h1
     have h2 := Array.all_eq_true'.1 h1 e he
     simp [hb] at h2
     have h3 := ih e.on h2 (by omega)
     rcases Nat.lt_or_ge e.on listed.size with q | q
     ·simp [q] at h3 ⊢; exact h3
     ·exfalso
      have : listed.size ≤ i := by omega
      simp [Array.getElem?_eq_none this] at hl
    rw [hr] at hmem
    cases hmem
def left (listed : Array Bool) : Nat := listed.toList.countP fun b => !b
theorem countP_set (l : List Bool) : ∀ i, l[i]? = some false → (l.set i true).countP (fun b => !b) + 1 = l.countP fun b => !b := by
 induction l with
 | nil => intro i h; simp at h
 | cons b l ih =>
  intro i h
  cases i with
  | zero => simp at h; subst h; simp
  | succ i =>
   have := ih i (by simpa using h)
   cases b <;> simp [List.countP_cons] <;> omega
theorem left_set {listed : Array Bool} {i : Nat} (h : listed.getD i true = false) : left (listed.setIfInBounds i true) + 1 = left listed := by
 have hi : listed.toList[i]? = some false := by
  rcases Nat.lt_or_ge i listed.size with q | q
  ·simp [q] at h ⊢; exact h
  ·simp [Array.getElem?_eq_none q] at h
 have := countP_set _ i hi
 unfold left
 simpa using this
theorem left_zero {listed : Array Bool} (h : left listed = 0) (i : Nat) : listed.getD i true = true := by
 unfold left at h
 rw [List.countP_eq_zero] at h
 rcases Nat.lt_or_ge i listed.size with q | q
 ·have := h listed[i] (by simp)
  simp [q]; simpa using this
 ·simp [Array.getElem?_eq_none q]
def putAll (ops : Array Oper) (a : Act) (vs : Nat → Value) : List Nat → Act
 | [] => a
 | i :: R => (putAll ops a vs R).put ((ops[i]?).bind (·.dst)) (vs i)
def upd {α : Type} (f : Nat → α) (i : Nat) (v : α) : Nat → α := fun j => if j = i then v else f j
theorem upd_same {α : Type} (f : Nat → α) (i : Nat) (v : α) : upd f i v i = v := by simp [upd]
theorem upd_ne {α : Type} (f : Nat → α) {i j : Nat} (v : α) (h : j ≠ i) : upd f i v j = f j := by simp [upd, h]
section
variable {P : Program} {ops : Array Oper} {Q : Exit → Act → World → Prop} {md : Region.Mode} {S : World → Prop}
def Steps (P : Program) (md : Region.Mode) (ops : Array Oper) (Q : Exit → Act → World → Prop) (S : World → Prop) (F : (Nat → Value) → Act) (R : List Nat) (I : (Nat → Bool) → (Nat → Value) → World → Prop) : Prop :=
 ∀ (l : Nat → Bool) (vs : Nat → Value) (w : World) (i : Nat) (o : Oper), i ∈ R → ops[i]? = some o → l i = false → (∀ j, Region.waitsFor md ops i j = true → l j = true) → (∀ j k, Region.waitsFor md ops j k = true → l j = true → l k = true) → I l vs w → S w →
  ∀ K' : Act → World → Prop, Shut (∀ v w', S w' → I (upd l i true) (upd vs i v) w' → K' ((F vs).put o.dst v) w') →
   if Region.wanted o (yielded ops (F vs).tmps) = true then Oper.wp P o (F vs) w K' Q else K' ((F vs).put o.dst undef) w
theorem wpAnyH_bag (R : List Nat) (I : (Nat → Bool) → (Nat → Value) → World → Prop) (a0 : Act) (hdown : downB md ops = true) (hR : ∀ i, i ∈ R → i < ops.size)
  (hput : ∀ i, i ∈ R → ∀ vs v, (putAll ops a0 vs R).put ((ops[i]?).bind (·.dst)) v = putAll ops a0 (upd vs i v) R)
  (step : Steps P md ops Q S (fun vs => putAll ops a0 vs R) R I)
  (done : ∀ l vs w, (∀ i, i ∈ R → l i = true) → I l vs w → S w → Q .normal (putAll ops a0 vs R) w) :
  ∀ (fuel : Nat) (listed : Array Bool) (vs : Nat → Value) (w : World), listed.size = ops.size → left listed ≤ fuel → (∀ i, i < ops.size → i ∉ R → listed.getD i true = true) → (∀ j k, Region.waitsFor md ops j k = true → listed.getD j false = true → listed.getD k false = true) →
   I (fun j => listed.getD j false) vs w → S w → wpAnyH P md ops Q S fuel listed (putAll ops a0 vs R) w := by
 intro fuel
 induction fuel with
 | zero =>
  intro listed vs w hsz hl hr hcl hI hS
  refine ⟨?_, done _ vs w (fun i hi => ?_) hI hS⟩
  ·cases hc : Region.ready md ops listed with
   | nil => rfl
   | cons j js =>
    have : j ∈ Region.ready md ops listed := by rw [hc]; simp
    have h1 := (mem_ready.1 this).1
    rw [left_zero (by omega) j] at h1; cases h1
  ·have := left_zero (by omega : left listed = 0) i
   have hlt : i < listed.size := by rw [hsz]; exact hR i hi
   simp [hlt] at this ⊢; exact this
 | succ fuel ih =>
  intro listed vs w hsz hl hr hcl hI hS
  refine ⟨fun h0 => done _ vs w (fun i hi => ?_) hI hS, fun i hi => ?_⟩
  ·have := ready_none hdown h0 (i + 1) i (by omega) (hR i hi)
   have hlt : i < listed.size := by rw [hsz]; exact hR i hi
   simp [hlt] at this ⊢; exact this
  ·obtain ⟨h1, o, ho, h2⟩ := mem_ready.1 hi
   have hlt : i < ops.size := (Array.getElem?_eq_some_iff.1 ho).1
   have hiR : i ∈ R := by
    apply Classical.byContradiction
    intro hn
    rw [hr i hlt hn] at h1; cases h1
   have hls : i < listed.size := by rw [hsz]; exact hlt
   have hwt : ∀ j, Region.waitsFor md ops i j = true → listed.getD j false = true := fun j hj => by
    obtain ⟨o', ho', e, he, hb, hon⟩ := Region.waitsFor_spec hj
    rw [ho] at ho'
    injection ho' with ho'
    subst ho'
    rw [← hon]; exact h2 e he hb
   refine wpOp_step ho (fun K' hK => ?_)
   refine step (fun j => listed.getD j false) vs w i o hiR ho (by simp [hls] at h1 ⊢; exact h1) hwt hcl hI hS K' (fun v w' hS' hI' => hK _ _ ⟨hS', ?_⟩)
   have hp := hput i hiR vs v
   rw [ho] at hp
   simp only [Option.bind_some] at hp
   rw [hp]
   have hll := left_set h1
   refine ih (listed.setIfInBounds i true) (upd vs i v) w' (by simpa using hsz) (by omega) (fun j hj hjR => ?_) ?_ ?_ hS'
   ·have := hr j hj hjR
    by_cases hij : i = j
    ·subst hij; simp [hls]
    ·rw [getD_set_ne true hij]; exact this
   ·intro j k hjk hj
    by_cases hij : i = j
    ·subst hij; exact getD_set_true (hwt k hjk)
    ·rw [getD_set_ne false hij] at hj; exact getD_set_true (hcl j k hjk hj)
   ·have e : (fun j => (listed.setIfInBounds i true).getD j false) = upd (fun j => listed.getD j false) i true := by
     funext j
     by_cases hij : i = j
     ·subst hij; simp [upd, hls]
     ·rw [getD_set_ne false hij, upd_ne _ _ (fun e => hij e.symm)]
    rw [e]; exact hI'
end
section
variable {P : Program} {ops : Array Oper} {Q : Exit → Act → World → Prop} {md : Region.Mode} {S : World → Prop}
def vsOf (ops : Array Oper) (a : Act) (i : Nat) : Value := (((ops[i]?).bind (·.dst)).bind (fun d => a.tmps[d]?)).getD undef
theorem wpAnyH_from (R : List Nat) (I : (Nat → Bool) → (Nat → Value) → World → Prop) {a0 : Act} {fuel : Nat} {given : Array Bool} {w : World} (listed : Array Bool) (hgiven : given = listed) (hdown : downB md ops = true) (hR : R.all (fun i => decide (i < ops.size)) = true)
  (hl : ((List.range ops.size).all fun i => R.contains i || listed.getD i true) = true) (hsz : listed.size = ops.size) (hf : decide (left listed ≤ fuel) = true)
  (hcl : ((List.range ops.size).all fun j => !listed.getD j false || (List.range ops.size).all fun k => !Region.waitsFor md ops j k || listed.getD k false) = true)
  {F : (Nat → Value) → Act} (hF : ∀ vs, putAll ops a0 vs R = F vs)
  (hput : ∀ i, i ∈ R → ∀ vs v, (F vs).put ((ops[i]?).bind (·.dst)) v = F (upd vs i v))
  (h0 : F (vsOf ops a0) = a0) (hS : S w) (hI : I (fun j => listed.getD j false) (vsOf ops a0) w)
  (step : Steps P md ops Q S F R I)
  (done : ∀ l vs w, (∀ i, i ∈ R → l i = true) → I l vs w → S w → Q .normal (F vs) w) : wpAnyH P md ops Q S fuel given a0 w := by
 subst hgiven
 obtain rfl : F = fun vs => putAll ops a0 vs R := funext fun vs => (hF vs).symm
 have := wpAnyH_bag (P := P) (Q := Q) (S := S) (md := md) R I a0 hdown (fun i hi => by simpa using List.all_eq_true.1 hR i hi) hput step done fuel given (vsOf ops a0) w hsz (by simpa using hf) (fun i hi hn => by
  have h1 := List.all_eq_true.1 hl i (List.mem_range.2 hi)
  simp only [Bool.or_eq_true] at h1
  rcases h1 with h1 | h1
  ·exact absurd (by simpa using h1) hn
  ·exact h1) (fun j k hjk hj => by
   have hjl : j < ops.size := by
    rcases Nat.lt_or_ge j given.size with q | q
    ·omega
    ·simp [Array.getElem?_eq_none q] at hj
   have hkl : k < ops.size := by
    obtain ⟨o', ho', e, he, hb, hon⟩ := Region.waitsFor_spec hjk
    have h1 := List.all_eq_true.1 hdown j (List.mem_range.2 hjl)
    simp only [ho'] at h1
    have h2 := Array.all_eq_true'.1 h1 e he
    simp [hb] at h2
    omega
   have h1 := List.all_eq_true.1 hcl j (List.mem_range.2 hjl)
   simp only [hj, Bool.not_true, Bool.false_or] at h1
   have h2 := List.all_eq_true.1 h1 k (List.mem_range.2 hkl)
   simpa [hjk] using h2) hI hS
 exact h0 ▸ this
end
structure Bag (w0 w : World) (L : Nat → Bool) (b : Nat → Nat) (ob : Nat → Obj) : Prop where
 below : Below w0.heap.size w0 w
 at_ : ∀ i, L i = true → w0.heap.size ≤ b i ∧ w.heap[b i]? = some (ob i)
 inj : ∀ i j, L i = true → L j = true → b i = b j → i = j
section
variable {w0 w w' : World} {L : Nat → Bool} {b : Nat → Nat} {ob : Nat → Obj}
theorem Bag.none (h : Below w0.heap.size w0 w) (hL : ∀ i, L i = false) : Bag w0 w L b ob := { below := h, at_ := fun i hi => (by rw [hL i] at hi; cases hi), inj := fun i j hi => (by rw [hL i] at hi; cases hi) }
theorem Bag.next (h : Bag w0 w L b ob) (hb : Below w.heap.size w w') : Bag w0 w' L b ob :=
 ⟨h.below.trans (hb.mono h.below.size), fun i hi => ⟨(h.at_ i hi).1, (hb.block _ (blk_lt (h.at_ i hi).2)).trans (h.at_ i hi).2⟩, h.inj⟩
theorem Bag.alloc (h : Bag w0 w L b ob) {i : Nat} (hi : L i = false) (o : Obj) : Bag w0 (w.alloc o) (upd L i true) (upd b i w.heap.size) (upd ob i o) := by
 have hb := below_alloc w o
 refine ⟨h.below.trans (hb.mono h.below.size), fun j hj => ?_, fun j k hj hk e => ?_⟩
 ·by_cases e : j = i
  ·subst e; simp only [upd_same]; exact ⟨h.below.size, heap_alloc_new w o⟩
  ·rw [upd_ne _ _ e] at hj ⊢; rw [upd_ne _ _ e]
   exact ⟨(h.at_ j hj).1, (hb.block _ (blk_lt (h.at_ j hj).2)).trans (h.at_ j hj).2⟩
 ·by_cases e1 : j = i
  ·by_cases e2 : k = i
   ·rw [e1, e2]
   ·subst e1
    rw [upd_same, upd_ne _ _ e2] at e
    rw [upd_ne _ _ e2] at hk
    have := blk_lt (h.at_ k hk).2
    omega
  ·rw [upd_ne _ _ e1] at hj e
   by_cases e2 : k = i
   ·subst e2
    rw [upd_same] at e
    have := blk_lt (h.at_ j hj).2
    omega
   ·rw [upd_ne _ _ e2] at hk e
    exact h.inj j k hj hk e
theorem Bag.turn (h : Bag w0 w L b ob) {i : Nat} (hi : L i = true) {o : Obj} (hc : Chg (fun k => k = b i) w w') (ho : w'.heap[b i]? = some o) : Bag w0 w' L b (upd ob i o) := by
 refine ⟨h.below.trans (hc.below (fun k e => by rw [e]; exact (h.at_ i hi).1) h.below.size), fun j hj => ?_, h.inj⟩
 by_cases e : j = i
 ·subst e; rw [upd_same]; exact ⟨(h.at_ j hj).1, ho⟩
 ·rw [upd_ne _ _ e]; exact ⟨(h.at_ j hj).1, hc.blk (h.at_ j hj).2 (fun q => e (h.inj j i hj hi q))⟩
theorem Bag.congr {L' : Nat → Bool} (h : Bag w0 w L b ob) (e : ∀ i, L i = L' i) : Bag w0 w L' b ob := by
 obtain rfl : L = L' := funext e
 exact h
theorem three_cells {cs : Array Value} (h : cs.size = 3) : ∃ a b c, cs = #[a, b, c] := by
 obtain ⟨l⟩ := cs
 match l, h with
 | [a, b, c], _ => exact ⟨a, b, c, rfl⟩
end
def BagI (W : World) (A : List Nat) (C : Nat → (Nat → Nat) → Option Value) (mk : Nat → Nat → Value) (OB : Nat → (Nat → Bool) → (Nat → Nat) → Obj → Prop) (l : Nat → Bool) (vs : Nat → Value) (w : World) : Prop :=
 ∃ b ob, Bag W w (fun i => A.contains i && l i) b ob ∧ (∀ i v, C i b = some v → l i = true → vs i = v) ∧ (∀ i, A.contains i = true → l i = true → vs i = mk i (b i)) ∧
  (∀ i, A.contains i = true → l i = true → OB i l b (ob i))
section
variable {W w w' : World} {A : List Nat} {C : Nat → (Nat → Nat) → Option Value} {mk : Nat → Nat → Value} {OB : Nat → (Nat → Bool) → (Nat → Nat) → Obj → Prop} {l : Nat → Bool} {vs : Nat → Value}
theorem BagI.start (hb : Below W.heap.size W w) (h : ∀ i, A.contains i = true → l i = false) (hC : ∀ i b v, C i b = some v → l i = false) : BagI W A C mk OB l vs w :=
 ⟨fun _ => 0, fun _ => .cells #[] 0 (0, 0), Bag.none hb (fun i => by
  cases e : A.contains i with
  | false => rfl
  | true => simp [h i e]), fun i v e q => by (rw [hC i _ v e] at q; cases q), fun i e q => (by rw [h i e] at q; cases q), fun i e q => (by rw [h i e] at q; cases q)⟩
theorem BagI.below (h : BagI W A C mk OB l vs w) : Below W.heap.size W w := by
 obtain ⟨b, ob, hb, _⟩ := h
 exact hb.below
theorem BagI.const {i : Nat} (h : BagI W A C mk OB l vs w) (hA : A.contains i = false) (hb : Below w.heap.size w w') {v : Value} (hC : ∀ b, (∀ j, A.contains j = true → l j = true → vs j = mk j (b j)) → C i b = some v)
  (hO : ∀ j b o, A.contains j = true → l j = true → OB j l b o → OB j (upd l i true) b o) : BagI W A C mk OB (upd l i true) (upd vs i v) w' := by
 obtain ⟨b, ob, hB, h1, h2, h3⟩ := h
 have ne : ∀ j, A.contains j = true → j ≠ i := fun j hj e => by rw [e, hA] at hj; cases hj
 refine ⟨b, ob, (hB.next hb).congr (fun j => ?_), fun j u hu hl => ?_, fun j hj hl => ?_, fun j hj hl => ?_⟩
 ·by_cases e : j = i
  ·rw [e, hA]; rfl
  ·rw [upd_ne _ _ e]
 ·by_cases e : j = i
  ·subst e; rw [upd_same]; exact Option.some.inj ((hC b h2).symm.trans hu)
  ·rw [upd_ne _ _ e] at hl ⊢; exact h1 j u hu hl
 ·rw [upd_ne _ _ (ne j hj)] at hl ⊢; exact h2 j hj hl
 ·rw [upd_ne _ _ (ne j hj)] at hl; exact hO j b _ hj hl (h3 j hj hl)
theorem BagI.alloc {i : Nat} (h : BagI W A C mk OB l vs w) (hA : A.contains i = true) (hl0 : l i = false) (o : Obj) (hC : ∀ b, C i b = none) (hCb : ∀ j b n, l j = true → C j (upd b i n) = C j b) {v : Value} (hv : v = mk i w.heap.size)
  (hO : ∀ j b o, A.contains j = true → j ≠ i → l j = true → OB j l b o → OB j (upd l i true) (upd b i w.heap.size) o) (hN : ∀ b, OB i (upd l i true) (upd b i w.heap.size) o) :
  BagI W A C mk OB (upd l i true) (upd vs i v) (w.alloc o) := by
 obtain ⟨b, ob, hB, h1, h2, h3⟩ := h
 refine ⟨_, _, (hB.alloc (i := i) (by rw [hA, hl0]; rfl) o).congr (fun j => ?_), fun j u hu hl => ?_, fun j hj hl => ?_, fun j hj hl => ?_⟩
 ·by_cases e : j = i
  ·subst e; simp only [upd_same, hA, Bool.and_self]
  ·simp only [upd_ne _ _ e]
 ·by_cases e : j = i
  ·subst e; rw [hC] at hu; cases hu
  ·rw [upd_ne _ _ e] at hl ⊢; exact h1 j u (by rw [← hu, hCb j b _ hl]) hl
 ·by_cases e : j = i
  ·subst e; simp only [upd_same]; exact hv
  ·rw [upd_ne _ _ e] at hl; rw [upd_ne _ _ e, upd_ne _ _ e]; exact h2 j hj hl
 ·by_cases e : j = i
  ·subst e; simp only [upd_same]; exact hN b
  ·rw [upd_ne _ _ e] at hl; rw [upd_ne ob _ e]; exact hO j b _ hj e hl (h3 j hj hl)
theorem BagI.turn {i k : Nat} (h : BagI W A C mk OB l vs w) (hA : A.contains i = false) (hk : A.contains k = true) (hl : l k = true) {v : Value} (hC : ∀ b, C i b = none)
  (hw : ∀ b ob, vs k = mk k (b k) → OB k l b ob → w.heap[b k]? = some ob → W.heap.size ≤ b k → (∀ j, A.contains j = true → l j = true → vs j = mk j (b j)) → ∃ o', Chg (fun q => q = b k) w w' ∧ w'.heap[b k]? = some o' ∧ OB k (upd l i true) b o')
  (hO : ∀ j b o, A.contains j = true → j ≠ k → l j = true → OB j l b o → OB j (upd l i true) b o) : BagI W A C mk OB (upd l i true) (upd vs i v) w' := by
 obtain ⟨b, ob, hB, h1, h2, h3⟩ := h
 have ne : ∀ j, A.contains j = true → j ≠ i := fun j hj e => by rw [e, hA] at hj; cases hj
 have hat := hB.at_ k (by rw [hk, hl]; rfl)
 obtain ⟨o', hc, hh, ho⟩ := hw b (ob k) (h2 k hk hl) (h3 k hk hl) hat.2 hat.1 h2
 refine ⟨b, _, (hB.turn (i := k) (by rw [hk, hl]; rfl) hc hh).congr (fun j => ?_), fun j u hu hl => ?_, fun j hj hl => ?_, fun j hj hl => ?_⟩
 ·by_cases e : j = i
  ·rw [e, hA]; rfl
  ·rw [upd_ne _ _ e]
 ·by_cases e : j = i
  ·subst e; rw [hC] at hu; cases hu
  ·rw [upd_ne _ _ e] at hl ⊢; exact h1 j u hu hl
 ·rw [upd_ne _ _ (ne j hj)] at hl ⊢; exact h2 j hj hl
 ·rw [upd_ne _ _ (ne j hj)] at hl
  by_cases e : j = k
  ·subst e; rw [upd_same]; exact ho
  ·rw [upd_ne _ _ e]; exact hO j b _ hj e hl (h3 j hj hl)
end
theorem Chg.setCell3 (w : World) (b i j k : Nat) (u v x : Value) : Chg (fun q => q = b) w (((w.setCell ⟨b, i, none⟩ u).setCell ⟨b, j, none⟩ v).setCell ⟨b, k, none⟩ x) :=
 ((Chg.setCell w b i u).trans (Chg.setCell _ b j v)).trans (Chg.setCell _ b k x)
theorem row_set3 {w : World} {b : Nat} {t : TypeId} {a0 a1 a2 : Value} (v0 v1 v2 : Value) (h : w.heap[b]? = some (.cells #[a0, a1, a2] t (0, 0))) :
  (((w.setCell ⟨b, 0, none⟩ v0).setCell ⟨b, 1, none⟩ v1).setCell ⟨b, 2, none⟩ v2).heap[b]? = some (.cells #[v0, v1, v2] t (0, 0)) := by
 have := row_set 2 v2 (row_set 1 v1 (row_set 0 v0 h))
 simp at this
 exact this
end Go.Proofs.YtgeonppckeiceaaGreatDoor.Ms
namespace Go.Proofs.YtgeonppckeiceaaGreatDoor
open Go.RowKit
set_option linter.unusedVariables false
set_option maxRecDepth 20000
def intsR (xs : List Int) : List Value := xs.map (Value.int .i64)
def WithRow (base : Nat) (Q : (Nat → Prop) → List Tm → World → Prop) (v : Value) (xs : List Int) : (Nat → Prop) → List Tm → World → Prop := fun F L w =>
 ∃ F2, Q F2 L w ∧ w.ownsRow base 3 1 v xs.length (intsR xs) ∧ (∀ k, v.ownBlock = some k → ¬ F2 k) ∧ (∀ k, F k ↔ (F2 k ∨ v.ownBlock = some k))
theorem WithRow.good {base : Nat} {Q : (Nat → Prop) → List Tm → World → Prop} (g : Good base Q) (v : Value) (xs : List Int) : Good base (WithRow base Q v xs) := by
 refine ⟨?_, ?_⟩
 ·rintro F S L w w' ⟨F2, h1, h2, h3, h4⟩ hc hn
  exact ⟨F2, g.frame h1 hc (fun k hk => hn k ((h4 k).2 (.inl hk))), hc.row h2 (fun k hk => hn k ((h4 k).2 (.inr hk))), h3, h4⟩
 ·rintro F L w ⟨F2, h1, h2, h3, h4⟩ k hk
  rcases (h4 k).1 hk with q | q
  ·exact g.bounds h1 k q
  ·exact h2.lt k q
section
variable {base : Nat} {Q1 Q2 : (Nat → Prop) → List Tm → World → Prop} {L1 L2 : List Tm} {K : Nat → Prop} {w0 w : World}
theorem Pair.addRow (h : Pair base Q1 Q2 L1 L2 K w0 w) : Pair base Q1 (WithRow base Q2 (.slice none 0 0) []) L1 L2 K w0 w := by
 obtain ⟨F1, F2, h1, h2, h3, h4, h5, h6⟩ := h
 exact ⟨F1, F2, h1, ⟨F2, h2, ⟨by simp [intsR], .inl ⟨rfl, rfl⟩⟩, fun k hk => by simp [Value.ownBlock] at hk, fun k => by simp [Value.ownBlock]⟩, h3, h4, h5, h6⟩
theorem Pair.dropRow {v : Value} {xs : List Int} (h : Pair base Q1 (WithRow base Q2 v xs) L1 L2 K w0 w) : Pair base Q1 Q2 L1 L2 K w0 w ∧ w.ownsRow base 3 1 v xs.length (intsR xs) := by
 obtain ⟨F1, F2, h1, ⟨F3, q1, q2, q3, q4⟩, h3, h4, h5, h6⟩ := h
 exact ⟨⟨F1, F3, h1, q1, fun k a b => h3 k a ((q4 k).2 (.inl b)), fun k hk => ⟨(h4 k hk).1, fun e => (h4 k hk).2.1 ((q4 k).2 (.inl e)), (h4 k hk).2.2⟩, h5, h6⟩, q2⟩
theorem Pair.rowOf {v : Value} {xs : List Int} (h : Pair base Q1 (WithRow base Q2 v xs) L1 L2 K w0 w) : w.ownsRow base 3 1 v xs.length (intsR xs) := h.dropRow.2
theorem Pair.appRow {v : Value} {xs : List Int} {x : Int} {g cap : Nat} {o : Obj} {w' : World} (g1 : Good base Q1) (g2 : Good base Q2) (h : Pair base Q1 (WithRow base Q2 v xs) L1 L2 K w0 w)
  (hown : w'.ownsRow base 3 1 (.slice (some ⟨g, 0, none⟩) (xs.length + 1) cap) (xs.length + 1) (intsR xs ++ [.int .i64 x])) (hgrow : (w.alloc o).grownBy w' v.ownBlock)
  (hat : v.ownBlock = some g ∨ g = w.heap.size + 1) : Pair base Q1 (WithRow base Q2 (.slice (some ⟨g, 0, none⟩) (xs.length + 1) cap) (xs ++ [x])) L1 L2 K w0 w' ∧ ∀ k, K k → w'.heap[k]? = w.heap[k]? := by
 have hbl := h.base_le
 obtain ⟨F1, F2, h1, ⟨F3, q1, q2, q3, q4⟩, h3, h4, h5, h6⟩ := h
 have C : Chg (fun k => some k = v.ownBlock) w w' := (Chg.alloc w o _).trans (Chg.grown hgrow)
 have hnew : ∀ k, k < w.heap.size → k = g → v.ownBlock = some k := by
  intro k hk e
  rcases hat with q | q
  ·rw [e]; exact q
  ·omega
 have hown' : ∀ k, v.ownBlock = some k → base ≤ k ∧ k < w.heap.size := fun k hk => q2.lt k hk
 refine ⟨⟨F1, fun k => F3 k ∨ k = g, g1.frame h1 C (fun k hk e => h3 k hk ((q4 k).2 (.inr e.symm))), ⟨F3, g2.frame q1 C (fun k hk e => q3 k e.symm hk), by rw [show (xs ++ [x]).length = xs.length + 1 by simp, show intsR (xs ++ [x]) = intsR xs ++ [.int .i64 x] by simp [intsR]]; exact hown, ?_, ?_⟩, ?_, ?_, h5, ?_⟩, ?_⟩
 ·intro k hk e
  have hk' : k = g := by simp [Value.ownBlock] at hk; exact hk.symm
  exact q3 k (hnew k (g2.bounds q1 k e).2 hk') e
 ·intro k
  simp [Value.ownBlock]
  constructor
  ·rintro (a | a)
   ·exact .inl a
   ·exact .inr a.symm
  ·rintro (a | a)
   ·exact .inl a
   ·exact .inr a.symm
 ·rintro k a (b | b)
  ·exact h3 k a ((q4 k).2 (.inl b))
  ·exact h3 k a ((q4 k).2 (.inr (hnew k (g1.bounds h1 k a).2 b)))
 ·intro k hk
  obtain ⟨a, b, c⟩ := h4 k hk
  refine ⟨a, ?_, Nat.lt_of_lt_of_le c C.size⟩
  rintro (e | e)
  ·exact b ((q4 k).2 (.inl e))
  ·exact b ((q4 k).2 (.inr (hnew k c e)))
 ·exact h6.trans (C.below (fun k hk => (hown' k hk.symm).1) hbl)
 ·intro k hk
  obtain ⟨a, b, c⟩ := h4 k hk
  exact C.block k c (fun e => b ((q4 k).2 (.inr e.symm)))
end
def pubT (x : Int) : Tm := ⟨3, ⟨#[]⟩, 0, x, 0, 0⟩
def shareT (x y : Int) : Tm := ⟨4, ⟨#[]⟩, 0, x, y, 0⟩
theorem pub_wf {x : Int} (h : I64 x) : Wf (pubT x) := ⟨wf_emp, k3, u0, h, k0, k0⟩
theorem share_wf {x y : Int} (h : I64 x) (k : I64 y) : Wf (shareT x y) := ⟨wf_emp, k4, u0, h, k, k0⟩
def secF (L : List Tm) (p : Int) : Int × Bool := if (getT L p).2 = true ∧ (getT L p).1.K = 3 then ((getT L p).1.A, true) else (0, false)
def agreeF (L : List Tm) (most : Int) (x p : Int) : Int × Int × List Tm :=
 if (secF L p).2 = true then putF L most (shareT (if x ≤ (secF L p).1 then x else (secF L p).1) (if x ≤ (secF L p).1 then (secF L p).1 else x)) else (0, 1, L)
theorem sec_in {L : List Tm} {p a : Int} (hf : Fit L) (h : secF L p = (a, true)) : 1 ≤ p ∧ p ≤ (L.length : Int) ∧ 1 ≤ a ∧ a < p := by
 unfold secF at h
 split at h
 ·rename_i hp
  obtain ⟨t, ht⟩ : ∃ t, t = (getT L p).1 := ⟨_, rfl⟩
  have h2 : getT L p = (t, true) := by rw [ht, ← hp.1]
  obtain ⟨q1, q2, q3⟩ := getT_in h2
  have h3 := hf (p - 1).toNat (by omega) 0 (by rw [← q3, ht, hp.2]; decide)
  rw [← q3] at h3
  simp [prt] at h3
  injection h with h4 h5
  rw [h2] at h4
  simp only at h4
  omega
 ·injection h with h1 h2; cases h2
section
variable {base g : Nat} {most : Int} {Q2 : (Nat → Prop) → List Tm → World → Prop} {L L2 : List Tm} {K : Nat → Prop} {w0 w : World}
set_option maxHeartbeats 400000 in
theorem Pair.publicP {L' : List Tm} {a b x : Int} (g2 : Good base Q2) (h : Pair base (PSq base g most) Q2 L L2 K w0 w) (hx : I64 x) (hf : putF L most (pubT x) = (a, b, L')) :
  Calls Tryz.prog 46 #[.pointer (some ⟨g, 0, none⟩), .int .i64 x] w fun e w' => e = .returned (.tuple #[.int .i64 a, .int .i64 b]) ∧ Pair base (PSq base g most) Q2 L' L2 K w0 w' ∧ ∀ k, K k → w'.heap[k]? = w.heap[k]? := by
 have H := Lib.hid h
 have HX := Lib.hid hx
 have HF := Lib.hid hf
 clear h hx hf
 go_enter Tryz.func46, Tryz.ntmps46
 go_wp2_with fail
 refine (H.out.putP g2 (pubT x) (pub_wf HX.out) HF.out).mono ?_
 rintro e w1 ⟨rfl, h1, hk⟩
 have H1 := Lib.hid h1
 have HK := Lib.hid hk
 clear h1 hk H HF
 go_wp2_with fail
 go_ret2
 exact ⟨rfl, H1.out, HK.out⟩
set_option maxHeartbeats 1000000 in
theorem Pair.secretOfP {a : Int} {ok : Bool} (g2 : Good base Q2) (h : Pair base (PSq base g most) Q2 L L2 K w0 w) (p : Int) (hs : secF L p = (a, ok)) :
  Calls Tryz.prog 200 #[.pointer (some ⟨g, 0, none⟩), .int .i64 p] w (Two (.int .i64 a) (.bool ok) (Pair base (PSq base g most) Q2 L L2 K w0) w) := by
 have gP := PSq.good base g most
 have H := Lib.hid h
 obtain ⟨⟨⟨T, S, N, A, B, C⟩, b⟩, hx⟩ : ∃ x, getT L p = x := ⟨_, rfl⟩
 have HX := Lib.hid hx
 unfold secF at hs
 rw [hx] at hs
 simp only at hs
 clear h hx
 by_cases hb : b = true ∧ T = 3
 ·obtain ⟨rfl, rfl⟩ := hb
  rw [if_pos ⟨rfl, rfl⟩] at hs
  injection hs with e1 e2
  subst e1 e2
  go_enter Tryz.func200, Tryz.ntmps200
  go_wp2_with fail
  refine (H.out.getP g2 p HX.out).mono ?_
  rintro e w1 ⟨rfl, h1, hb1⟩
  rw [show ((⟨3, S, N, A, B, C⟩, true) : Tm × Bool).1.v = .agg #[.int .i64 3, .string S, .int .u64 N, .int .i64 A, .int .i64 B, .int .i64 C] from rfl]
  have HB := Lib.hid (hb1.alloc hb1.size (.cells #[.int .i64 3, .string S, .int .u64 N, .int .i64 A, .int .i64 B, .int .i64 C] 116))
  clear h1 hb1 HX
  go_wp2_with fail
  go_ret2
  exact ⟨rfl, H.out.below gP g2 HB.out, HB.out⟩
 ·rw [if_neg hb] at hs
  injection hs with e1 e2
  subst e1 e2
  by_cases hb1 : b = true
  ·subst hb1
   have hT : (T != 3) = true := by simp at hb; simpa using hb
   have hT' : (T == 3) = false := by simpa using hT
   clear hb
   go_enter Tryz.func200, Tryz.ntmps200
   go_wp2_with fail
   refine (H.out.getP g2 p HX.out).mono ?_
   rintro e w1 ⟨rfl, h1, hb1⟩
   rw [show ((⟨T, S, N, A, B, C⟩, true) : Tm × Bool).1.v = .agg #[.int .i64 T, .string S, .int .u64 N, .int .i64 A, .int .i64 B, .int .i64 C] from rfl]
   have HB := Lib.hid (hb1.alloc hb1.size (.cells #[.int .i64 T, .string S, .int .u64 N, .int .i64 A, .int .i64 B, .int .i64 C] 116))
   clear h1 hb1 HX
   go_wp2_with fail
   go_ret2
   exact ⟨rfl, H.out.below gP g2 HB.out, HB.out⟩
  ·obtain rfl : b = false := by simpa using hb1
   clear hb hb1
   go_enter Tryz.func200, Tryz.ntmps200
   go_wp2_with fail
   refine (H.out.getP g2 p HX.out).mono ?_
   rintro e w1 ⟨rfl, h1, hb1⟩
   rw [show ((⟨T, S, N, A, B, C⟩, false) : Tm × Bool).1.v = .agg #[.int .i64 T, .string S, .int .u64 N, .int .i64 A, .int .i64 B, .int .i64 C] from rfl]
   have HB := Lib.hid (hb1.alloc hb1.size (.cells #[.int .i64 T, .string S, .int .u64 N, .int .i64 A, .int .i64 B, .int .i64 C] 116))
   clear h1 hb1 HX
   go_wp2_with fail
   go_ret2
   exact ⟨rfl, H.out.below gP g2 HB.out, HB.out⟩
set_option maxHeartbeats 1000000 in
theorem inOrder_any (x y : Int) (w : World) :
  Calls Tryz.prog 201 #[.int .i64 x, .int .i64 y] w fun e w' => e = .returned (.agg #[.int .i64 (if x ≤ y then x else y), .int .i64 (if x ≤ y then y else x)]) ∧ Below w.heap.size w w' := by
 by_cases h : x ≤ y
 ·rw [if_pos h, if_pos h]
  have h1 : decide (y < x) = false := by simp; omega
  clear h
  go_enter Tryz.func201, Tryz.ntmps201
  go_wp2_with fail
  exact bodyPost_ret (v := .agg #[.int .i64 x, .int .i64 y]) (by simp [results, Tryz.results201, go_sem]) rfl ⟨rfl, ((Below.refl _ _).alloc (Nat.le_refl _) _).alloc (by simp) _⟩
 ·rw [if_neg h, if_neg h]
  have h1 : decide (y < x) = true := by simp; omega
  clear h
  go_enter Tryz.func201, Tryz.ntmps201
  go_wp2_with fail
  exact bodyPost_ret (v := .agg #[.int .i64 y, .int .i64 x]) (by simp [results, Tryz.results201, go_sem]) rfl ⟨rfl, ((Below.refl _ _).alloc (Nat.le_refl _) _).alloc (by simp) _⟩
set_option maxHeartbeats 1000000 in
theorem Pair.agreeP {L' : List Tm} {a b x p : Int} (g2 : Good base Q2) (h : Pair base (PSq base g most) Q2 L L2 K w0 w) (hx : I64 x) (hf : agreeF L most x p = (a, b, L')) :
  Calls Tryz.prog 170 #[.pointer (some ⟨g, 0, none⟩), .int .i64 x, .int .i64 p] w fun e w' => e = .returned (.tuple #[.int .i64 a, .int .i64 b]) ∧ Pair base (PSq base g most) Q2 L' L2 K w0 w' ∧ ∀ k, K k → w'.heap[k]? = w.heap[k]? := by
 have gP := PSq.good base g most
 obtain ⟨s, ok, hs⟩ : ∃ s ok, secF L p = (s, ok) := ⟨_, _, rfl⟩
 have hfit := h.facts
 have hKl : ∀ k, K k → k < w.heap.size := by obtain ⟨F1, F2, _, _, _, h4, _⟩ := h; exact fun k hk => (h4 k hk).2.2
 have HKl := Lib.hid hKl
 unfold agreeF at hf
 rw [hs] at hf
 simp only at hf
 have H := Lib.hid h
 have HS := Lib.hid hs
 cases ok with
 | false =>
  rw [if_neg (by simp)] at hf
  injection hf with e1 e2
  injection e2 with e2 e3
  subst e1 e2 e3
  clear h hs hx hfit hKl
  go_enter Tryz.func170, Tryz.ntmps170
  go_wp2_with fail
  refine (H.out.secretOfP g2 p HS.out).mono ?_
  rintro e w1 ⟨rfl, h1, hb1⟩
  have H1 := Lib.hid h1
  have HB := Lib.hid hb1
  clear h1 hb1 H HS
  go_wp2_with fail
  go_ret2
  exact ⟨rfl, H1.out, fun k hk => HB.out.block k (HKl.out k hk)⟩
 | true =>
  rw [if_pos rfl] at hf
  have hsi := sec_in hfit.1 hs
  have hsw : I64 s := i64_small (by omega) (by omega)
  have hlo : I64 (if x ≤ s then x else s) := by split <;> assumption
  have hhi : I64 (if x ≤ s then s else x) := by split <;> assumption
  have HW := Lib.hid (share_wf hlo hhi)
  have HO := inOrder_any x s
  obtain ⟨lo, hl⟩ : ∃ lo, lo = (if x ≤ s then x else s) := ⟨_, rfl⟩
  obtain ⟨hi, hh⟩ : ∃ hi, hi = (if x ≤ s then s else x) := ⟨_, rfl⟩
  rw [← hl, ← hh] at hf HW HO
  have HF := Lib.hid hf
  have HI := Lib.hid HO
  clear h hs hx hfit hKl hsi hsw hlo hhi hl hh hf HO
  go_enter Tryz.func170, Tryz.ntmps170
  go_wp2_with fail
  refine (H.out.secretOfP g2 p HS.out).mono ?_
  rintro e w1 ⟨rfl, h1, hb1⟩
  have H1 := Lib.hid h1
  have HB1 := Lib.hid hb1
  clear h1 hb1 H HS
  go_wp2_with fail
  refine (HI.out _).mono ?_
  rintro e w2 ⟨rfl, hb2⟩
  have HB2 := Lib.hid (hb2.alloc hb2.size (.cells #[.int .i64 lo, .int .i64 hi] 41))
  have H2 := Lib.hid (H1.out.below gP g2 HB2.out)
  clear hb2 H1 HI
  go_wp2_with fail
  refine (H2.out.putP g2 (shareT lo hi) HW.out HF.out).mono ?_
  rintro e w3 ⟨rfl, h3, hk3⟩
  have H3 := Lib.hid h3
  have HK3 := Lib.hid hk3
  clear h3 hk3 H2 HF
  go_wp2_with fail
  go_ret2
  refine ⟨rfl, H3.out, fun k hk => ?_⟩
  rw [HK3.out k hk, HB2.out.block k (Nat.lt_of_lt_of_le (HKl.out k hk) HB1.out.size), HB1.out.block k (HKl.out k hk)]
end
theorem may_pub {n : Nat} {x : Int} (h1 : 1 ≤ x) (h2 : x ≤ (n : Int)) : (pubT x).may n = true := by
 rw [may_iff]
 simp [May, below3, BadP, many, prt, pubT, sz0]
 omega
theorem may_sh {n : Nat} {x y : Int} (h1 : 1 ≤ x) (h2 : x ≤ y) (h3 : y ≤ (n : Int)) : (shareT x y).may n = true := by
 rw [may_iff]
 simp [May, below3, BadP, many, prt, shareT, sz0]
 omega
def sh (x y : Int) : Tm := shareT (if x ≤ y then x else y) (if x ≤ y then y else x)
theorem Named.sec {L : List Tm} {p x : Int} (h : Named L p (pubT x)) : secF L p = (x, true) := by
 unfold secF
 rw [h.get]
 rfl
theorem agree_is {L : List Tm} {most x y p : Int} (h : Named L p (pubT y)) : agreeF L most x p = putF L most (sh x y) := by
 unfold agreeF
 rw [h.sec]
 rfl
end Go.Proofs.YtgeonppckeiceaaGreatDoor
