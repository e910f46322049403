/- What a store's terms say of names: the name that a term has, what Put answers as a function, and that both ways to say whether a term may be are one. -/
/- The program's store in memory, and how a term is put behind the others of its log. -/
import Derived.Test.YtgeonppckeiceaaGreatDoorGp01
import Derived.StillTailTactics
namespace Go.Proofs.YtgeonppckeiceaaGreatDoor
open Go.RowKit
set_option linter.unusedVariables false
set_option maxRecDepth 20000

/-- The name that a term has, 0 if none. -/
def nameOf (L : List Tm) (t : Tm) : Int := match L.findIdx? (fun u => eqB u t) with
  | some k => (k : Int) + 1
  | none => 0
theorem nameOf_cases (L : List Tm) (t : Tm) : (nameOf L t = 0 ∧ ∀ j, j < L.length → L.getD j zeroT ≠ t) ∨
    ∃ k, k < L.length ∧ nameOf L t = (k : Int) + 1 ∧ L.getD k zeroT = t ∧ ∀ j, j < k → L.getD j zeroT ≠ t := by
  unfold nameOf
  cases h : L.findIdx? (fun u => eqB u t) with
  | none =>
    left
    refine ⟨rfl, ?_⟩
    intro j hj hjt
    rw [List.findIdx?_eq_none_iff] at h
    have := h (L.getD j zeroT) (by simp [List.getD, hj])
    rw [hjt] at this
    have h2 := (eqB_iff t t).2 rfl
    rw [h2] at this; cases this
  | some k =>
    right
    rw [List.findIdx?_eq_some_iff_getElem] at h
    obtain ⟨hk, h1, h2⟩ := h
    refine ⟨k, hk, rfl, by have := (eqB_iff _ _).1 h1; simpa [List.getD, hk] using this, ?_⟩
    intro j hj hjt
    have h3 := h2 j hj
    have hjl : j < L.length := Nat.lt_trans hj hk
    simp [List.getD, hjl] at hjt
    rw [hjt] at h3
    exact h3 ((eqB_iff t t).2 rfl)
theorem nameOf_of (L : List Tm) (t : Tm) (k : Nat) (hk : k < L.length) (ht : L.getD k zeroT = t) (hj : ∀ j, j < k → L.getD j zeroT ≠ t) : nameOf L t = (k : Int) + 1 := by
  rcases nameOf_cases L t with ⟨_, h⟩ | ⟨k', hk', h1, h2, h3⟩
  · exact absurd ht (h k hk)
  · rcases Nat.lt_trichotomy k k' with q | q | q
    · exact absurd ht (h3 k q)
    · rw [q]; exact h1
    · exact absurd h2 (hj k' q)
theorem nameOf_zero (L : List Tm) (t : Tm) (h : ∀ j, j < L.length → L.getD j zeroT ≠ t) : nameOf L t = 0 := by
  rcases nameOf_cases L t with ⟨h, _⟩ | ⟨k', hk', h1, h2, h3⟩
  · exact h
  · exact absurd h2 (h k' hk')
theorem nameOf_le (L : List Tm) (t : Tm) : 0 ≤ nameOf L t ∧ nameOf L t ≤ (L.length : Int) := by
  rcases nameOf_cases L t with ⟨h, _⟩ | ⟨k', hk', h1, h2, h3⟩ <;> omega
theorem getD_snoc_lt (L : List Tm) (t : Tm) (j : Nat) (h : j < L.length) : (L ++ [t]).getD j zeroT = L.getD j zeroT := by simp [List.getD, List.getElem?_append_left h]
theorem getD_snoc_eq (L : List Tm) (t : Tm) : (L ++ [t]).getD L.length zeroT = t := by simp [List.getD]
theorem nameOf_snoc_same (L : List Tm) (t : Tm) (h : nameOf L t = 0) : nameOf (L ++ [t]) t = (L.length : Int) + 1 := by
  rcases nameOf_cases L t with ⟨_, h0⟩ | ⟨k', hk', h1, h2, h3⟩
  · exact nameOf_of _ _ L.length (by simp) (getD_snoc_eq L t) (fun j hj => by rw [getD_snoc_lt L t j hj]; exact h0 j hj)
  · omega
theorem nameOf_snoc_other (L : List Tm) (t u : Tm) (h : u ≠ t) : nameOf (L ++ [t]) u = nameOf L u := by
  rcases nameOf_cases L u with ⟨h1, h0⟩ | ⟨k, hk, h1, h2, h3⟩
  · rw [h1]
    apply nameOf_zero
    intro j hj
    have hj' : j < L.length + 1 := by simpa using hj
    rcases Nat.lt_succ_iff_lt_or_eq.1 hj' with q | rfl
    · rw [getD_snoc_lt L t j q]; exact h0 j q
    · rw [getD_snoc_eq]; exact Ne.symm h
  · rw [h1]
    exact nameOf_of _ _ k (by simp; omega) (by rw [getD_snoc_lt L t k hk]; exact h2) (fun j hj => by rw [getD_snoc_lt L t j (by omega)]; exact h3 j hj)
theorem nameOf_snoc_old (L : List Tm) (t u : Tm) (h : nameOf L u ≠ 0) : nameOf (L ++ [t]) u = nameOf L u := by
  rcases nameOf_cases L u with ⟨h1, h0⟩ | ⟨k, hk, h1, h2, h3⟩
  · exact absurd h1 h
  · rw [h1]
    exact nameOf_of _ _ k (by simp; omega) (by rw [getD_snoc_lt L t k hk]; exact h2) (fun j hj => by rw [getD_snoc_lt L t j (by omega)]; exact h3 j hj)

instance (n m i : Nat) (p : Int) : Decidable (BadP n m i p) := by unfold BadP; infer_instance
instance (n : Nat) (K : Int) (S : ByteArray) (N A B C : Int) : Decidable (May n K S N A B C) := by unfold May; infer_instance
def Tm.may (n : Nat) (t : Tm) : Bool := decide (May n t.K t.S t.N t.A t.B t.C)

/-- What Put answers, and the terms that are there then. -/
def putF (L : List Tm) (most : Int) (t : Tm) : Int × Int × List Tm :=
  if t.may L.length = true then (if nameOf L t ≠ 0 then (nameOf L t, 0, L) else if most ≤ (L.length : Int) then (0, 4, L) else ((L.length : Int) + 1, 0, L ++ [t])) else (0, 1, L)
theorem below3 {P : Nat → Prop} : (∀ j, j < 3 → P j) ↔ P 0 ∧ P 1 ∧ P 2 := by
  constructor
  · intro h; exact ⟨h 0 (by omega), h 1 (by omega), h 2 (by omega)⟩
  · rintro ⟨h0, h1, h2⟩ j hj
    rcases (by omega : j = 0 ∨ j = 1 ∨ j = 2) with rfl | rfl | rfl <;> assumption
theorem below2 {P : Nat → Prop} : (∀ j, j < 2 → P j) ↔ P 0 ∧ P 1 := by
  constructor
  · intro h; exact ⟨h 0 (by omega), h 1 (by omega)⟩
  · rintro ⟨h0, h1⟩ j hj
    rcases (by omega : j = 0 ∨ j = 1) with rfl | rfl <;> assumption
theorem empty_iff (S : ByteArray) : S.toList = [] ↔ S = ⟨#[]⟩ := by
  rw [ByteArray.toList_eq]
  constructor
  · intro h; apply ByteArray.ext; apply Array.ext'; exact h
  · rintro rfl; rfl
theorem mayP_iff (n : Nat) (t : Tm) : MayP n t ↔ May n t.K t.S t.N t.A t.B t.C := by
  obtain ⟨K, S, N, A, B, C⟩ := t
  unfold MayP May
  rw [below3]
  simp only [empty_iff]
  by_cases h : 1 ≤ K ∧ K ≤ 11
  · have : K = 1 ∨ K = 2 ∨ K = 3 ∨ K = 4 ∨ K = 5 ∨ K = 6 ∨ K = 7 ∨ K = 8 ∨ K = 9 ∨ K = 10 ∨ K = 11 := by omega
    rcases this with rfl | rfl | rfl | rfl | rfl | rfl | rfl | rfl | rfl | rfl | rfl
    all_goals
      simp [many, bareT, partAt, prt, BadP, below3, below2, eq_comm (a := (0 : Int)), eq_comm (a := (⟨#[]⟩ : ByteArray))]
      try simp only [and_assoc, and_comm, and_left_comm]
  · constructor
    · intro h'; exact absurd ⟨h'.1, h'.2.1⟩ h
    · intro h'; exact absurd ⟨h'.1, h'.2.1⟩ h
end Go.Proofs.YtgeonppckeiceaaGreatDoor
namespace Go.Proofs.YtgeonppckeiceaaGreatDoor
open Go.RowKit
open Go.Maps
set_option linter.unusedVariables false
set_option maxRecDepth 20000

theorem blk_lt {w : World} {g : Nat} {o : Obj} (h : w.heap[g]? = some o) : g < w.heap.size := by
  rcases Nat.lt_or_ge g w.heap.size with q | q
  · exact q
  · rw [Array.getElem?_eq_none q] at h; cases h
theorem Chg.blk {S : Nat → Prop} {w w' : World} {g : Nat} {o : Obj} (hc : Chg S w w') (h : w.heap[g]? = some o) (hn : ¬ S g) : w'.heap[g]? = some o := by
  rw [hc.block g (blk_lt h) hn]; exact h
theorem Chg.row {S : Nat → Prop} {w w' : World} {base : Nat} {e : TypeId} {size : Nat} {v : Value} {n : Nat} {xs : List Value} (hc : Chg S w w') (h : w.ownsRow base e size v n xs) (hn : ∀ k, v.ownBlock = some k → ¬ S k) : w'.ownsRow base e size v n xs := by
  refine ⟨h.1, ?_⟩
  rcases h.2 with hn0 | ⟨g, cap, cur, rfl, hb, hgg, rest⟩
  · exact .inl hn0
  · exact .inr ⟨g, cap, cur, rfl, hb, hc.blk hgg (hn g rfl), rest⟩
theorem Chg.own {S : Nat → Prop} {w w' : World} {P : Program} {k : TypeId} {R : Value → Option (DataW Unit × List MemPlace)} {b n : Nat} {D : DataW Unit} (hc : Chg S w w') (h : w.ownsMap P k R b n D) (hn : ¬ S b) : w'.ownsMap P k R b n D := by
  obtain ⟨es, clock, hb, r⟩ := h
  exact ⟨es, clock, hc.blk hb hn, r⟩
theorem Chg.grown {w w' : World} {row : Option Nat} (h : w.grownBy w' row) : Chg (fun k => some k = row) w w' := ⟨h.os, h.tape, h.output, h.size, fun k hk hs => h.block k hk hs⟩
theorem Chg.alloc (w : World) (o : Obj) (S : Nat → Prop) : Chg S w (w.alloc o) := .of_below ((Below.refl _ _).alloc (Nat.le_refl _) _)
theorem Chg.drew (w : World) (S : Nat → Prop) : Chg S w w.drew := .of_below ⟨rfl, rfl, rfl, Nat.le_refl _, fun _ _ => rfl⟩
theorem Chg.setCell (w : World) (g i : Nat) (v : Value) : Chg (fun k => k = g) w (w.setCell ⟨g, i, none⟩ v) := ⟨rfl, rfl, rfl, by simp, fun k _ hs => heap_setCell_other w _ k v hs⟩
theorem Chg.mono {S T : Nat → Prop} {w w' : World} (h : Chg S w w') (hs : ∀ k, k < w.heap.size → S k → T k) : Chg T w w' := ⟨h.os, h.tape, h.output, h.size, fun k hk ht => h.block k hk (fun q => ht (hs k hk q))⟩
theorem Chg.below {S : Nat → Prop} {w w' : World} {B : Nat} (h : Chg S w w') (hs : ∀ k, S k → B ≤ k) (hB : B ≤ w.heap.size) : Below B w w' := ⟨h.os, h.tape, h.output, h.size, fun k hk => h.block k (by omega) (fun q => by have := hs k q; omega)⟩

/-- The map of names reads as the names of the terms. -/
def NameOk (D : DataW Unit) (L : List Tm) : Prop := ∀ t kl, keyOf Tryz.prog 116 t.v = some kl → D.atKey kl (.lit (.int .i64 0)) = .lit (.int .i64 (nameOf L t))
theorem NameOk.nil : NameOk (.map []) [] := fun t kl _ => rfl
theorem NameOk.snoc {D : DataW Unit} {L : List Tm} {t : Tm} {kl : Lit} (h : NameOk D L) (hm : IsMap D) (hk : keyOf Tryz.prog 116 t.v = some kl) (h0 : nameOf L t = 0) :
    NameOk (D.put kl (.lit (.int .i64 ((L.length : Int) + 1)))) (L ++ [t]) := by
  intro u ku hu
  by_cases e : u = t
  · subst e
    rw [hk] at hu; injection hu with hu; subst hu
    rw [atKey_put_same hm (law32.key hk), nameOf_snoc_same L u h0]
  · have hne : ku ≠ kl := by
      intro hh; subst hh
      have hv := law32.inj hu hk
      apply e
      obtain ⟨K', S', N', A', B', C'⟩ := u
      obtain ⟨K, S, N, A, B, C⟩ := t
      simp only [Tm.v, Value.agg.injEq] at hv
      simpa using hv
    rw [atKey_put_other hne, h u ku hu, nameOf_snoc_other L t u e]

/-- The depths of the terms, in the order of their names. -/
def deps (L : List Tm) : List Value := intsV (depths L).tail
/-- The log of the program's store: its struct at block gl, its rows and its map. -/
structure LG (base gl bm : Nat) (tv dv : Value) (D : DataW Unit) (L : List Tm) (w : World) : Prop where
  lg : w.heap[gl]? = some (.cells #[tv, dv, .map (some bm)] 192 (0, 0))
  terms : w.ownsRow base 116 6 tv L.length (cellsL L)
  depthsR : w.ownsRow base 3 1 dv L.length (deps L)
  names : w.ownsMap Tryz.prog 116 (plainElem Tryz.prog 3) bm L.length D
  ok : NameOk D L
  gb : base ≤ gl
  bb : base ≤ bm
  n1 : gl ≠ bm
  n2 : tv.ownBlock ≠ some gl
  n3 : tv.ownBlock ≠ some bm
  n4 : dv.ownBlock ≠ some gl
  n5 : dv.ownBlock ≠ some bm
  n6 : ∀ k, tv.ownBlock = some k → dv.ownBlock ≠ some k
  most : L.length ≤ 1048576

theorem LG.lt {base gl bm : Nat} {tv dv : Value} {D : DataW Unit} {L : List Tm} {w : World} (h : LG base gl bm tv dv D L w) : gl < w.heap.size := by
  rcases Nat.lt_or_ge gl w.heap.size with q | q
  · exact q
  · have := h.lg; rw [Array.getElem?_eq_none q] at this; cases this

/-- A new row, or the one that it was. -/
def NewRow (v v' : Value) (n : Nat) : Prop := v'.ownBlock = v.ownBlock ∨ ∃ k, v'.ownBlock = some k ∧ n ≤ k
/-- What comes of a log behind which a term was put. -/
def Added (base gl bm : Nat) (tv dv : Value) (D : DataW Unit) (L : List Tm) (t : Tm) (d : Nat) (w w' : World) : Prop :=
  ∃ tv' dv' kl, w'.heap[gl]? = some (.cells #[tv', dv', .map (some bm)] 192 (0, 0)) ∧ w'.ownsRow base 116 6 tv' (L.length + 1) (cellsL (L ++ [t])) ∧
    w'.ownsRow base 3 1 dv' (L.length + 1) (deps L ++ [.int .i64 d]) ∧ keyOf Tryz.prog 116 t.v = some kl ∧ w'.ownsMap Tryz.prog 116 (plainElem Tryz.prog 3) bm (L.length + 1) (D.put kl (.lit (.int .i64 ((L.length : Int) + 1)))) ∧
    NewRow tv tv' w.heap.size ∧ NewRow dv dv' w.heap.size ∧ (∀ k, tv'.ownBlock = some k → dv'.ownBlock ≠ some k) ∧ Chg (fun k => k = gl ∨ k = bm ∨ some k = tv.ownBlock ∨ some k = dv.ownBlock) w w'
def boxP (t : Tm) : Obj := .cells #[.int .i64 t.K, .string t.S, .int .u64 t.N, .int .i64 t.A, .int .i64 t.B, .int .i64 t.C] 116
/-- Behind the first append. -/
def Mid1 (base gl bm : Nat) (tv dv : Value) (D : DataW Unit) (L : List Tm) (t : Tm) (w : World) (tv' : Value) (w' : World) : Prop :=
  w'.heap[gl]? = some (.cells #[tv', dv, .map (some bm)] 192 (0, 0)) ∧ w'.ownsRow base 116 6 tv' (L.length + 1) (cellsL (L ++ [t])) ∧ w'.ownsRow base 3 1 dv L.length (deps L) ∧
    w'.ownsMap Tryz.prog 116 (plainElem Tryz.prog 3) bm L.length D ∧ w'.heap[w.heap.size]? = some (boxP t) ∧ NewRow tv tv' (w.heap.size + 1) ∧ Chg (fun k => k = gl ∨ some k = tv.ownBlock) w w'
theorem mid1 {base gl bm : Nat} {tv dv : Value} {D : DataW Unit} {L : List Tm} {t : Tm} {w w1 : World} {gg cap' : Nat} (h : LG base gl bm tv dv D L w)
    (hown : w1.ownsRow base 116 6 (.slice (some ⟨gg, 0, none⟩) (L.length + 1) cap') (L.length + 1) (cellsL L ++ t.cl)) (hgrow : (((w.alloc (boxP t)).alloc (boxP t)).drew).grownBy w1 tv.ownBlock)
    (hat : tv.ownBlock = some gg ∨ gg = (w.alloc (boxP t)).heap.size + 1) : Mid1 base gl bm tv dv D L t w (.slice (some ⟨gg, 0, none⟩) (L.length + 1) cap') (w1.setCell ⟨gl, 0, none⟩ (.slice (some ⟨gg, 0, none⟩) (L.length + 1) cap')) := by
  have hgl := h.lt
  have hsz : (w.alloc (boxP t)).heap.size = w.heap.size + 1 := by simp
  have hne : gg ≠ gl := by
    rcases hat with hat | hat
    · intro e; subst e; exact h.n2 hat
    · omega
  have hlt : ∀ k, tv.ownBlock = some k → k < w.heap.size := fun k hk => (h.terms.lt k hk).2
  have C1 : Chg (fun k => some k = tv.ownBlock) w w1 := (((Chg.alloc w (boxP t) _).trans (Chg.alloc _ (boxP t) _)).trans (Chg.drew _ _)).trans (Chg.grown hgrow)
  have C2 : Chg (fun k => k = gl) w1 (w1.setCell ⟨gl, 0, none⟩ (.slice (some ⟨gg, 0, none⟩) (L.length + 1) cap')) := Chg.setCell w1 gl 0 _
  have hb : w1.heap[w.heap.size]? = some (boxP t) := by
    rw [hgrow.block w.heap.size (by show w.heap.size < ((w.heap.push _).push _).size; simp; omega) (fun e => by have := hlt _ e.symm; omega)]
    show ((w.alloc (boxP t)).alloc (boxP t)).heap[w.heap.size]? = _
    rw [Below.heap_alloc _ _ _ (by rw [hsz]; omega)]
    exact heap_alloc_new w _
  have C12 : Chg (fun k => k = gl ∨ some k = tv.ownBlock) w (w1.setCell ⟨gl, 0, none⟩ (.slice (some ⟨gg, 0, none⟩) (L.length + 1) cap')) := (C1.mono fun k _ q => .inr q).trans (C2.mono fun k _ q => .inl q)
  refine ⟨?_, ?_, ?_, ?_, ?_, ?_, C12⟩
  · have := heap_setCell_same w1 gl 0 _ _ (.slice (some ⟨gg, 0, none⟩) (L.length + 1) cap') (C1.blk h.lg (Ne.symm h.n2))
    simpa using this
  · have e : cellsL (L ++ [t]) = cellsL L ++ t.cl := by simp [cellsL]
    rw [e]
    exact C2.row hown (fun k hk e => hne (by rw [← e]; simpa [Value.ownBlock] using hk))
  · exact C12.row h.depthsR (fun k hk e => by
      rcases e with e | e
      · exact h.n4 (by rw [← e]; exact hk)
      · exact h.n6 k e.symm hk)
  · exact C12.own h.names (fun e => by
      rcases e with e | e
      · exact h.n1 e.symm
      · exact h.n3 e.symm)
  · exact C2.blk hb (by omega)
  · rcases hat with hat | hat
    · exact .inl hat.symm
    · exact .inr ⟨gg, rfl, by omega⟩

/-- Behind the second append. -/
def Mid2 (base gl bm : Nat) (tv dv : Value) (D : DataW Unit) (L : List Tm) (t : Tm) (d : Nat) (w : World) (tv' dv' : Value) (w' : World) : Prop :=
  w'.heap[gl]? = some (.cells #[tv', dv', .map (some bm)] 192 (0, 0)) ∧ w'.ownsRow base 116 6 tv' (L.length + 1) (cellsL (L ++ [t])) ∧ w'.ownsRow base 3 1 dv' (L.length + 1) (deps L ++ [.int .i64 d]) ∧
    w'.ownsMap Tryz.prog 116 (plainElem Tryz.prog 3) bm L.length D ∧ w'.heap[w.heap.size]? = some (boxP t) ∧ NewRow tv tv' w.heap.size ∧ NewRow dv dv' w.heap.size ∧ (∀ k, tv'.ownBlock = some k → dv'.ownBlock ≠ some k) ∧
    Chg (fun k => k = gl ∨ some k = tv.ownBlock ∨ some k = dv.ownBlock) w w'
theorem mid2 {base gl bm : Nat} {tv dv tv' dv' : Value} {D : DataW Unit} {L : List Tm} {t : Tm} {d : Nat} {w w2 w3 : World} (h : LG base gl bm tv dv D L w) (m : Mid1 base gl bm tv dv D L t w tv' w2)
    (hown : w3.ownsRow base 3 1 dv' (L.length + 1) (deps L ++ [.int .i64 d])) (hgrow : (w2.alloc (.cells #[.int .i64 d] 3)).grownBy w3 dv.ownBlock) (hat : NewRow dv dv' w2.heap.size) :
    Mid2 base gl bm tv dv D L t d w tv' dv' (w3.setCell ⟨gl, 1, none⟩ dv') := by
  obtain ⟨m1, m2, m3, m4, m5, m6, m7⟩ := m
  have hgl := h.lt
  have hlt : ∀ k, dv.ownBlock = some k → k < w.heap.size := fun k hk => (h.depthsR.lt k hk).2
  have hlt1 : ∀ k, tv.ownBlock = some k → k < w.heap.size := fun k hk => (h.terms.lt k hk).2
  have hgd : dv'.ownBlock ≠ some gl := by
    intro e
    rcases hat with q | ⟨k, q, hk⟩
    · exact h.n4 (by rw [← q]; exact e)
    · rw [q] at e; injection e with e; have := m7.size; omega
  have C1 : Chg (fun k => some k = dv.ownBlock) w2 w3 := (Chg.alloc w2 _ _).trans (Chg.grown hgrow)
  have C2 : Chg (fun k => k = gl) w3 (w3.setCell ⟨gl, 1, none⟩ dv') := Chg.setCell w3 gl 1 _
  have C12 : Chg (fun k => k = gl ∨ some k = dv.ownBlock) w2 (w3.setCell ⟨gl, 1, none⟩ dv') := (C1.mono fun k _ q => .inr q).trans (C2.mono fun k _ q => .inl q)
  have htd : ∀ k, tv'.ownBlock = some k → dv.ownBlock ≠ some k := by
    intro k hk e
    rcases m6 with q | ⟨j, q, hj⟩
    · exact h.n6 k (by rw [← q]; exact hk) e
    · rw [q] at hk; injection hk with hk; have := hlt k e; omega
  have htg : tv'.ownBlock ≠ some gl := by
    intro e
    rcases m6 with q | ⟨j, q, hj⟩
    · exact h.n2 (by rw [← q]; exact e)
    · rw [q] at e; injection e with e; omega
  refine ⟨?_, ?_, ?_, ?_, ?_, ?_, ?_, ?_, ?_⟩
  · have := heap_setCell_same w3 gl 1 _ _ dv' (C1.blk m1 (Ne.symm h.n4))
    simpa using this
  · exact C12.row m2 (fun k hk e => by
      rcases e with e | e
      · exact htg (by rw [← e]; exact hk)
      · exact htd k hk e.symm)
  · exact C2.row hown (fun k hk e => hgd (by rw [← e]; exact hk))
  · exact C12.own m4 (fun e => by
      rcases e with e | e
      · exact h.n1 e.symm
      · exact h.n5 e.symm)
  · exact C12.blk m5 (fun e => by
      rcases e with e | e
      · omega
      · have := hlt _ e.symm; omega)
  · rcases m6 with q | ⟨j, q, hj⟩
    · exact .inl q
    · exact .inr ⟨j, q, by omega⟩
  · rcases hat with q | ⟨j, q, hj⟩
    · exact .inl q
    · exact .inr ⟨j, q, by have := m7.size; omega⟩
  · intro k hk e
    rcases hat with q | ⟨j, q, hj⟩
    · exact htd k hk (by rw [← q]; exact e)
    · rw [q] at e; injection e with e
      have := (m2.lt k hk).2
      omega
  · exact (m7.mono fun k _ q => by rcases q with q | q; exact .inl q; exact .inr (.inl q)).trans (C12.mono fun k _ q => by rcases q with q | q; exact .inl q; exact .inr (.inr q))
theorem farc {wq w1 : World} {o : Obj} {row : Option Nat} {g i : Nat} {v : Value} (hp : g < wq.heap.size) (hgrow : (wq.alloc o).grownBy w1 row) (hne : row ≠ some g) (c : wq.cell? ⟨g, i, none⟩ = some v) : w1.cell? ⟨g, i, none⟩ = some v := by
  have hb := hgrow.block g (by show g < (wq.heap.push _).size; simp; omega) (fun e => hne e.symm)
  rw [World.cell?_of_block (a := ⟨g, i, none⟩) hb, World.cell?_alloc_past (hn := hp)]; exact c
theorem farf {wq w1 : World} {o : Obj} {row : Option Nat} {g i : Nat} (hp : g < wq.heap.size) (hgrow : (wq.alloc o).grownBy w1 row) (hne : row ≠ some g) (c : wq.frozen? ⟨g, i, none⟩ = false) : w1.frozen? ⟨g, i, none⟩ = false := by
  have hb := hgrow.block g (by show g < (wq.heap.push _).size; simp; omega) (fun e => hne e.symm)
  rw [World.frozen?_of_block (a := ⟨g, i, none⟩) hb, World.frozen?_alloc_past (hn := hp)]; exact c

theorem wf_small (a : Int) (h1 : 0 ≤ a) (h2 : a ≤ 1048577) : (Lit.int .i64 a).wf = true := by
  have e1 : IntKind.i64.min = -9223372036854775808 := by decide
  have e2 : IntKind.i64.max = 9223372036854775807 := by decide
  simp only [Lit.wf, e1, e2, Bool.and_eq_true, decide_eq_true_eq]
  omega
theorem added_of {base gl bm : Nat} {tv dv tv' dv' : Value} {D : DataW Unit} {L : List Tm} {t : Tm} {d : Nat} {kl : Lit} {w w4 w5 : World} (h : LG base gl bm tv dv D L w) (m : Mid2 base gl bm tv dv D L t d w tv' dv' w4)
    (hk : keyOf Tryz.prog 116 t.v = some kl) (hown : w5.ownsMap Tryz.prog 116 (plainElem Tryz.prog 3) bm (L.length + 1) (D.put kl (.lit (.int .i64 ((L.length : Int) + 1))))) (hgrow : w4.drew.grownBy w5 (some bm)) :
    Added base gl bm tv dv D L t d w w5 := by
  obtain ⟨m1, m2, m3, m4, m5, m6, m7, m8, m9⟩ := m
  have C : Chg (fun k => k = bm) w4 w5 := ((Chg.drew w4 _).trans (Chg.grown hgrow)).mono (fun k _ q => by injection q)
  have hlb : bm < w.heap.size := h.names.lt
  have hs := m9.size
  refine ⟨tv', dv', kl, C.blk m1 h.n1, C.row m2 ?_, C.row m3 ?_, hk, hown, m6, m7, m8, (m9.mono fun k _ q => by rcases q with q | q | q; exact .inl q; exact .inr (.inr (.inl q)); exact .inr (.inr (.inr q))).trans (C.mono fun k _ q => .inr (.inl q))⟩
  · intro k hk e
    subst e
    rcases m6 with q | ⟨j, q, hj⟩
    · exact h.n3 (by rw [← q]; exact hk)
    · rw [q] at hk; injection hk with hk; omega
  · intro k hk e
    subst e
    rcases m7 with q | ⟨j, q, hj⟩
    · exact h.n5 (by rw [← q]; exact hk)
    · rw [q] at hk; injection hk with hk; omega

theorem info32 : (Tryz.prog.info? 116).map (fun i => (i.zero, i.size, i.bytes)) = some (some (.agg #[.int .i64 0, .string ⟨#[]⟩, .int .u64 0, .int .i64 0, .int .i64 0, .int .i64 0]), 6, 56) := by kernel_rfl

set_option maxHeartbeats 2000000 in
set_option maxRecDepth 100000 in
theorem log_add (base gl bm : Nat) (tv dv : Value) (D : DataW Unit) (L : List Tm) (t : Tm) (kl : Lit) (d : Nat) (w : World) (h : LG base gl bm tv dv D L w) (hkey : keyOf Tryz.prog 116 t.v = some kl) (hlen : L.length < 1048576) (hd : d ≤ 1048576) (hbase : base ≤ w.heap.size) :
    Calls Tryz.prog 164 #[.pointer (some ⟨gl, 0, none⟩), t.v, .int .i64 d] w fun e w' => e = .returned (.tuple #[]) ∧ Added base gl bm tv dv D L t d w w' := by
  obtain ⟨a, cap, rfl⟩ : ∃ a cap, tv = .slice a L.length cap := by
    rcases h.terms.2 with ⟨hv, hn⟩ | ⟨b, cap, cur, hv, _⟩
    · exact ⟨none, 0, by rw [hv, hn]⟩
    · exact ⟨_, cap, hv⟩
  obtain ⟨a2, cap2, rfl⟩ : ∃ a cap, dv = .slice a L.length cap := by
    rcases h.depthsR.2 with ⟨hv, hn⟩ | ⟨b, cap, cur, hv, _⟩
    · exact ⟨none, 0, by rw [hv, hn]⟩
    · exact ⟨_, cap, hv⟩
  have HR := Lib.hid h
  have hgl := h.lt
  obtain ⟨K, S, N, A, B, C⟩ := t
  have HK := Lib.hid hkey
  obtain ⟨wq, hwq⟩ : ∃ wq, wq = w.alloc (boxP ⟨K, S, N, A, B, C⟩) := ⟨_, rfl⟩
  have hq : Chg (fun _ => False) w wq := by rw [hwq]; exact Chg.alloc _ _ _
  have hlg := hq.blk h.lg (by simp)
  have c0 : wq.cell? ⟨gl, 0, none⟩ = some (.slice a L.length cap) := by rw [cell_of_row wq gl 0 _ _ _ hlg]; rfl
  have f0 : wq.frozen? ⟨gl, 0, none⟩ = false := frozen_of_row wq gl 0 _ _ hlg
  have z : ∀ j, wq.cell? ⟨w.heap.size, j, none⟩ = #[Value.int .i64 K, .string S, .int .u64 N, .int .i64 A, .int .i64 B, .int .i64 C][j]? := fun j => by rw [hwq]; exact cell_of_row _ _ j _ _ _ (heap_alloc_new w _)
  have z0 := z 0
  have z1 := z 1
  have z2 := z 2
  have z3 := z 3
  have z4 := z 4
  have z5 := z 5
  simp at z0 z1 z2 z3 z4 z5
  have hgq : gl < wq.heap.size := blk_lt hlg
  have hbs : base ≤ wq.heap.size := Nat.le_trans hbase hq.size
  have hown := Lib.hid (hq.row h.terms (by simp))
  have ag : Hid ((Value.slice a L.length cap).ownBlock ≠ some gl) := Lib.hid h.n2
  have HQ := Lib.hid hwq
  obtain ⟨i0, hi0, hz0, hz1, hz2⟩ := info_parts info32
  unfold boxP at hwq
  simp only [] at hwq
  clear h hkey z hlg
  unfold Tm.v
  go_enter Tryz.func164, Tryz.ntmps164
  go_wp2
  rw [← hwq]
  clear hwq hq
  go_region_law
    ((refine step_append_lies _ (by rfl) _ _ _ (by rfl) base 116 i0 _ 6 56 Tryz.underlying22 hi0 hz0 hz1 hz2 rfl (by omega) (.slice a L.length cap) L.length (cellsL L) (by rfl) ((hown.out.alloc _).drew)
        ⟨wq.heap.size, 0, none⟩ 1 1 [.int .i64 K, .string S, .int .u64 N, .int .i64 A, .int .i64 B, .int .i64 C] (by rfl) (by rfl) (World.news_of_block (cs := #[.int .i64 K, .string S, .int .u64 N, .int .i64 A, .int .i64 B, .int .i64 C]) (t := 116) (fr := (0, 0)) (heap_alloc_new wq _)) (by simp [Value.oneCell'])
        (by omega) (by unfold maxLen; omega) (by omega) (by simp; omega) (wq.heap.size + 1) (by simp) ?_; intro gg cap' w1 hown1 hgrow hat hlt2; have y0 := far_cell hgq hgrow ag.out c0; have y1 := far_free hgq hgrow ag.out f0; have O1 := Lib.hid hown1; have O2 := Lib.hid hgrow; have O3 := Lib.hid hat; clear hown1 hgrow hat))
  all_goals
    have hM := mid1 HR.out O1.out (by have := O2.out; rw [HQ.out] at this; exact this) (by have := O3.out; rw [HQ.out] at this; exact this)
    generalize (w1.setCell ⟨gl, 0, none⟩ (.slice (some ⟨gg, 0, none⟩) (L.length + 1) cap')) = w2 at hM ⊢
    have HM := Lib.hid hM
    have c1 : w2.cell? ⟨gl, 1, none⟩ = some (.slice a2 L.length cap2) := by rw [cell_of_row w2 gl 1 _ _ _ hM.1]; rfl
    have f1 : w2.frozen? ⟨gl, 1, none⟩ = false := frozen_of_row w2 gl 1 _ _ hM.1
    have HO := Lib.hid hM.2.2.1
    have hg2 : gl < w2.heap.size := blk_lt hM.1
    have hb2 : base ≤ w2.heap.size := Nat.le_trans hbase hM.2.2.2.2.2.2.size
    have ad : Hid ((Value.slice a2 L.length cap2).ownBlock ≠ some gl) := Lib.hid HR.out.n4
    clear hM y0 y1 O1 O2 O3 z0 z1 z2 z3 z4 z5 c0 f0 hown hbs hgq hi0 hz0 hz1 hz2 hlt2
    obtain ⟨j0, hi0, hz0, hz1, hz2⟩ := info_parts info3
    go_wp2_with (at_builtin; refine wpList_append_lies _ rfl _ _ 94 rfl base 3 j0 (.int .i64 0) 1 8 Tryz.underlying94 hi0 hz0 hz1 hz2 rfl (by decide) _ _ _ rfl (HO.out.alloc _) ⟨w2.heap.size, 0, none⟩ 1 1 [.int .i64 d] rfl rfl (World.news_of_block (cs := #[.int .i64 d]) (t := 3) (fr := (0, 0)) (heap_alloc_new w2 _)) (by simp [Value.oneCell']) (by omega) (by unfold maxLen; omega) (by omega) (by simp; omega) (w2.heap.size + 1) (by simp) ?_; intro g2 cap3 w3 hown2 hgrow2 hat2 hlt3; have y1 := farc hg2 hgrow2 ad.out c1; have g1 := farf hg2 hgrow2 ad.out f1; have P1 := Lib.hid hown2; have P2 := Lib.hid hgrow2; have P3 := Lib.hid hat2; clear hown2 hgrow2 hat2)
    have hN := mid2 HR.out HM.out P1.out P2.out (by
      rcases P3.out with q | q
      · exact .inl q.symm
      · exact .inr ⟨g2, rfl, by rw [q]; exact Nat.le_succ _⟩)
    generalize (w3.setCell ⟨gl, 1, none⟩ (.slice (some ⟨g2, 0, none⟩) (L.length + 1) cap3)) = w4 at hN ⊢
    have HN := Lib.hid hN
    have c0 : w4.cell? ⟨gl, 0, none⟩ = some (.slice (some ⟨gg, 0, none⟩) (L.length + 1) cap') := by rw [cell_of_row w4 gl 0 _ _ _ hN.1]; rfl
    have c2 : w4.cell? ⟨gl, 2, none⟩ = some (.map (some bm)) := by rw [cell_of_row w4 gl 2 _ _ _ hN.1]; rfl
    have z : ∀ j, w4.cell? ⟨w.heap.size, j, none⟩ = #[Value.int .i64 K, .string S, .int .u64 N, .int .i64 A, .int .i64 B, .int .i64 C][j]? := fun j => cell_of_row _ _ j _ _ _ hN.2.2.2.2.1
    have z0 := z 0
    have z1 := z 1
    have z2 := z 2
    have z3 := z 3
    have z4 := z 4
    have z5 := z 5
    simp at z0 z1 z2 z3 z4 z5
    clear z hN y1 g1 P1 P2 P3 c1 f1 HM HO hi0 hz0 hz1 hz2 hlt3
    have hml : L.length < maxLen := by unfold maxLen; omega
    have hwf : (Lit.int .i64 ((L.length : Int) + 1)).wf = true := wf_small _ (by omega) (by omega)
    go_still_tail 10, (by kernel_rfl)
    change wpList _ _ _ _ _ w4.drew
    have hmw : w4.drew.ownsMap Tryz.prog 116 (plainElem Tryz.prog 3) bm L.length D := HN.out.2.2.2.1.drew
    have HMW := Lib.hid hmw
    clear hmw z0 z1 z2 z3 z4 z5 c0 c2
    go_wp2_with (at_mapUpdate; refine wpList_mapUpdate_own _ rfl _ _ _ 185 rfl 116 3 law32 Tryz.underlying185 _ bm L.length D rfl HMW.out hml _ _ kl rfl rfl HK.out (.lit (.int .i64 ((L.length : Int) + 1))) [] (plainElem_int Tryz.underlying3 hwf) ?_; intro w5 hown5 hgrow5; have R1 := Lib.hid hown5; have R2 := Lib.hid hgrow5; clear hown5 hgrow5)
    go_end0
    exact ⟨rfl, added_of HR.out HN.out HK.out R1.out R2.out⟩
end Go.Proofs.YtgeonppckeiceaaGreatDoor
