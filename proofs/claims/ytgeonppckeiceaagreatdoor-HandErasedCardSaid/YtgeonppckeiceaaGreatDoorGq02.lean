/- The program's store in memory, and how a term is put behind the others of its log. -/
/- The program's store in memory, and its New, Get, Depth, Len, for every store and every name. -/
/- A library contract at this program: that a copy of a text of at most 2^48 bytes is that text, and nothing that was there turns. -/
import Derived.Test.YtgeonppckeiceaaGreatDoorGq01
import Derived.StillTailTactics
import Derived.Shelf.LaysM
import Derived.Shelf.Strconv.Clone
import Derived.Test.YtgeonppckeiceaaGreatDoorProg
namespace Go.Proofs.YtgeonppckeiceaaGreatDoor
open Go.RowKit
open Go.Maps
set_option linter.unusedVariables false
set_option maxRecDepth 20000
theorem blk_lt {w : World} {g : Nat} {o : Obj} (h : w.heap[g]? = some o) : g < w.heap.size := by
 rcases Nat.lt_or_ge g w.heap.size with q | q
 ·exact q
 ·rw [Array.getElem?_eq_none q] at h; cases h
theorem Chg.blk {S : Nat → Prop} {w w' : World} {g : Nat} {o : Obj} (hc : Chg S w w') (h : w.heap[g]? = some o) (hn : ¬ S g) : w'.heap[g]? = some o := by
 rw [hc.block g (blk_lt h) hn]; exact h
theorem Chg.row {S : Nat → Prop} {w w' : World} {base : Nat} {e : TypeId} {size : Nat} {v : Value} {n : Nat} {xs : List Value} (hc : Chg S w w') (h : w.ownsRow base e size v n xs) (hn : ∀ k, v.ownBlock = some k → ¬ S k) : w'.ownsRow base e size v n xs := by
 refine ⟨h.1, ?_⟩
 rcases h.2 with hn0 | ⟨g, cap, cur, rfl, hb, hgg, rest⟩
 ·exact .inl hn0
 ·exact .inr ⟨g, cap, cur, rfl, hb, hc.blk hgg (hn g rfl), rest⟩
theorem Chg.own {S : Nat → Prop} {w w' : World} {P : Program} {k : TypeId} {R : Value → Option (DataW Unit × List MemPlace)} {b n : Nat} {D : DataW Unit} (hc : Chg S w w') (h : w.ownsMap P k R b n D) (hn : ¬ S b) : w'.ownsMap P k R b n D := by
 obtain ⟨es, clock, hb, r⟩ := h
 exact ⟨es, clock, hc.blk hb hn, r⟩
theorem Chg.grown {w w' : World} {row : Option Nat} (h : w.grownBy w' row) : Chg (fun k => some k = row) w w' := ⟨h.os, h.tape, h.output, h.size, fun k hk hs => h.block k hk hs⟩
theorem Chg.alloc (w : World) (o : Obj) (S : Nat → Prop) : Chg S w (w.alloc o) := .of_below ((Below.refl _ _).alloc (Nat.le_refl _) _)
theorem Chg.drew (w : World) (S : Nat → Prop) : Chg S w w.drew := .of_below ⟨rfl, rfl, rfl, Nat.le_refl _, fun _ _ => rfl⟩
theorem Chg.drewN (w : World) (q : Nat) (S : Nat → Prop) : Chg S w (w.drewN q) := .of_below ⟨rfl, rfl, rfl, Nat.le_refl _, fun _ _ => rfl⟩
theorem Chg.setCell (w : World) (g i : Nat) (v : Value) : Chg (fun k => k = g) w (w.setCell ⟨g, i, none⟩ v) := ⟨rfl, rfl, rfl, by simp, fun k _ hs => heap_setCell_other w _ k v hs⟩
theorem Chg.mono {S T : Nat → Prop} {w w' : World} (h : Chg S w w') (hs : ∀ k, k < w.heap.size → S k → T k) : Chg T w w' := ⟨h.os, h.tape, h.output, h.size, fun k hk ht => h.block k hk (fun q => ht (hs k hk q))⟩
theorem Chg.below {S : Nat → Prop} {w w' : World} {B : Nat} (h : Chg S w w') (hs : ∀ k, S k → B ≤ k) (hB : B ≤ w.heap.size) : Below B w w' := ⟨h.os, h.tape, h.output, h.size, fun k hk => h.block k (by omega) (fun q => by have := hs k q; omega)⟩
def NameOk (D : DataW Unit) (L : List Tm) : Prop := ∀ t kl, keyOf Tryz.prog 116 t.v = some kl → D.atKey kl (.lit (.int .i64 0)) = .lit (.int .i64 (nameOf L t))
theorem NameOk.nil : NameOk (.map []) [] := fun t kl _ => rfl
theorem NameOk.snoc {D : DataW Unit} {L : List Tm} {t : Tm} {kl : Lit} (h : NameOk D L) (hm : IsMap D) (hk : keyOf Tryz.prog 116 t.v = some kl) (h0 : nameOf L t = 0) :
  NameOk (D.put kl (.lit (.int .i64 ((L.length : Int) + 1)))) (L ++ [t]) := by
 intro u ku hu
 by_cases e : u = t
 ·subst e
  rw [hk] at hu; injection hu with hu; subst hu
  rw [atKey_put_same hm (law32.key hk), nameOf_snoc_same L u h0]
 ·have hne : ku ≠ kl := by
   intro hh; subst hh
   have hv := law32.inj hu hk
   apply e
   obtain ⟨K', S', N', A', B', C'⟩ := u
   obtain ⟨K, S, N, A, B, C⟩ := t
   simp only [Tm.v, Value.agg.injEq] at hv
   simpa using hv
  rw [atKey_put_other hne, h u ku hu, nameOf_snoc_other L t u e]
def deps (L : List Tm) : List Value := intsV (depths L).tail
structure LG (base gl bm : Nat) (tv dv : Value) (D : DataW Unit) (L : List Tm) (w : World) : Prop where
 lg : w.heap[gl]? = some (.cells #[tv, dv, .map (some bm)] 192 (0, 0))
 terms : w.ownsRow base 116 6 tv L.length (cellsL L)
 depthsR : w.ownsRow base 3 1 dv L.length (deps L)
 names : w.ownsMap Tryz.prog 116 (plainElem Tryz.prog 3) bm L.length D
 ok : NameOk D L
 gb : base ≤ gl
 bb : base ≤ bm
 n1 : gl ≠ bm
 n2 : tv.ownBlock ≠ some gl
 n3 : tv.ownBlock ≠ some bm
 n4 : dv.ownBlock ≠ some gl
 n5 : dv.ownBlock ≠ some bm
 n6 : ∀ k, tv.ownBlock = some k → dv.ownBlock ≠ some k
 most : L.length ≤ 1048576
theorem LG.lt {base gl bm : Nat} {tv dv : Value} {D : DataW Unit} {L : List Tm} {w : World} (h : LG base gl bm tv dv D L w) : gl < w.heap.size := by
 rcases Nat.lt_or_ge gl w.heap.size with q | q
 ·exact q
 ·have := h.lg; rw [Array.getElem?_eq_none q] at this; cases this
def NewRow (v v' : Value) (n : Nat) : Prop := v'.ownBlock = v.ownBlock ∨ ∃ k, v'.ownBlock = some k ∧ n ≤ k
def Added (base gl bm : Nat) (tv dv : Value) (D : DataW Unit) (L : List Tm) (t : Tm) (d : Nat) (w w' : World) : Prop :=
 ∃ tv' dv' kl, w'.heap[gl]? = some (.cells #[tv', dv', .map (some bm)] 192 (0, 0)) ∧ w'.ownsRow base 116 6 tv' (L.length + 1) (cellsL (L ++ [t])) ∧
  w'.ownsRow base 3 1 dv' (L.length + 1) (deps L ++ [.int .i64 d]) ∧ keyOf Tryz.prog 116 t.v = some kl ∧ w'.ownsMap Tryz.prog 116 (plainElem Tryz.prog 3) bm (L.length + 1) (D.put kl (.lit (.int .i64 ((L.length : Int) + 1)))) ∧
  NewRow tv tv' w.heap.size ∧ NewRow dv dv' w.heap.size ∧ (∀ k, tv'.ownBlock = some k → dv'.ownBlock ≠ some k) ∧ Chg (fun k => k = gl ∨ k = bm ∨ some k = tv.ownBlock ∨ some k = dv.ownBlock) w w'
def boxP (t : Tm) : Obj := .cells #[.int .i64 t.K, .string t.S, .int .u64 t.N, .int .i64 t.A, .int .i64 t.B, .int .i64 t.C] 116
def Mid1 (base gl bm : Nat) (tv dv : Value) (D : DataW Unit) (L : List Tm) (t : Tm) (w : World) (tv' : Value) (w' : World) : Prop :=
 w'.heap[gl]? = some (.cells #[tv', dv, .map (some bm)] 192 (0, 0)) ∧ w'.ownsRow base 116 6 tv' (L.length + 1) (cellsL (L ++ [t])) ∧ w'.ownsRow base 3 1 dv L.length (deps L) ∧
  w'.ownsMap Tryz.prog 116 (plainElem Tryz.prog 3) bm L.length D ∧ w'.heap[w.heap.size]? = some (boxP t) ∧ NewRow tv tv' (w.heap.size + 1) ∧ Chg (fun k => k = gl ∨ some k = tv.ownBlock) w w'
theorem mid1 {base gl bm : Nat} {tv dv : Value} {D : DataW Unit} {L : List Tm} {t : Tm} {w w1 : World} {gg cap' : Nat} (h : LG base gl bm tv dv D L w)
  (hown : w1.ownsRow base 116 6 (.slice (some ⟨gg, 0, none⟩) (L.length + 1) cap') (L.length + 1) (cellsL L ++ t.cl)) (hgrow : (((w.alloc (boxP t)).alloc (boxP t)).drew).grownBy w1 tv.ownBlock)
  (hat : tv.ownBlock = some gg ∨ gg = (w.alloc (boxP t)).heap.size + 1) : Mid1 base gl bm tv dv D L t w (.slice (some ⟨gg, 0, none⟩) (L.length + 1) cap') (w1.setCell ⟨gl, 0, none⟩ (.slice (some ⟨gg, 0, none⟩) (L.length + 1) cap')) := by
 have hgl := h.lt
 have hsz : (w.alloc (boxP t)).heap.size = w.heap.size + 1 := by simp
 have hne : gg ≠ gl := by
  rcases hat with hat | hat
  ·intro e; subst e; exact h.n2 hat
  ·omega
 have hlt : ∀ k, tv.ownBlock = some k → k < w.heap.size := fun k hk => (h.terms.lt k hk).2
 have C1 : Chg (fun k => some k = tv.ownBlock) w w1 := (((Chg.alloc w (boxP t) _).trans (Chg.alloc _ (boxP t) _)).trans (Chg.drew _ _)).trans (Chg.grown hgrow)
 have C2 : Chg (fun k => k = gl) w1 (w1.setCell ⟨gl, 0, none⟩ (.slice (some ⟨gg, 0, none⟩) (L.length + 1) cap')) := Chg.setCell w1 gl 0 _
 have hb : w1.heap[w.heap.size]? = some (boxP t) := by
  rw [hgrow.block w.heap.size (by show w.heap.size < ((w.heap.push _).push _).size; simp; omega) (fun e => by have := hlt _ e.symm; omega)]
  show ((w.alloc (boxP t)).alloc (boxP t)).heap[w.heap.size]? = _
  rw [Below.heap_alloc _ _ _ (by rw [hsz]; omega)]
  exact heap_alloc_new w _
 have C12 : Chg (fun k => k = gl ∨ some k = tv.ownBlock) w (w1.setCell ⟨gl, 0, none⟩ (.slice (some ⟨gg, 0, none⟩) (L.length + 1) cap')) := (C1.mono fun k _ q => .inr q).trans (C2.mono fun k _ q => .inl q)
 refine ⟨?_, ?_, ?_, ?_, ?_, ?_, C12⟩
 ·have := heap_setCell_same w1 gl 0 _ _ (.slice (some ⟨gg, 0, none⟩) (L.length + 1) cap') (C1.blk h.lg (Ne.symm h.n2))
  simpa using this
 ·have e : cellsL (L ++ [t]) = cellsL L ++ t.cl := by simp [cellsL]
  rw [e]
  exact C2.row hown (fun k hk e => hne (by rw [← e]; simpa [Value.ownBlock] using hk))
 ·exact C12.row h.depthsR (fun k hk e => by
   rcases e with e | e
   ·exact h.n4 (by rw [← e]; exact hk)
   ·exact h.n6 k e.symm hk)
 ·exact C12.own h.names (fun e => by
   rcases e with e | e
   ·exact h.n1 e.symm
   ·exact h.n3 e.symm)
 ·exact C2.blk hb (by omega)
 ·rcases hat with hat | hat
  ·exact .inl hat.symm
  ·exact .inr ⟨gg, rfl, by omega⟩
def Mid2 (base gl bm : Nat) (tv dv : Value) (D : DataW Unit) (L : List Tm) (t : Tm) (d : Nat) (w : World) (tv' dv' : Value) (w' : World) : Prop :=
 w'.heap[gl]? = some (.cells #[tv', dv', .map (some bm)] 192 (0, 0)) ∧ w'.ownsRow base 116 6 tv' (L.length + 1) (cellsL (L ++ [t])) ∧ w'.ownsRow base 3 1 dv' (L.length + 1) (deps L ++ [.int .i64 d]) ∧
  w'.ownsMap Tryz.prog 116 (plainElem Tryz.prog 3) bm L.length D ∧ w'.heap[w.heap.size]? = some (boxP t) ∧ NewRow tv tv' w.heap.size ∧ NewRow dv dv' w.heap.size ∧ (∀ k, tv'.ownBlock = some k → dv'.ownBlock ≠ some k) ∧
  Chg (fun k => k = gl ∨ some k = tv.ownBlock ∨ some k = dv.ownBlock) w w'
theorem mid2 {base gl bm : Nat} {tv dv tv' dv' : Value} {D : DataW Unit} {L : List Tm} {t : Tm} {d : Nat} {w w2 w3 : World} (h : LG base gl bm tv dv D L w) (m : Mid1 base gl bm tv dv D L t w tv' w2)
  (hown : w3.ownsRow base 3 1 dv' (L.length + 1) (deps L ++ [.int .i64 d])) (hgrow : (w2.alloc (.cells #[.int .i64 d] 3)).grownBy w3 dv.ownBlock) (hat : NewRow dv dv' w2.heap.size) :
  Mid2 base gl bm tv dv D L t d w tv' dv' (w3.setCell ⟨gl, 1, none⟩ dv') := by
 obtain ⟨m1, m2, m3, m4, m5, m6, m7⟩ := m
 have hgl := h.lt
 have hlt : ∀ k, dv.ownBlock = some k → k < w.heap.size := fun k hk => (h.depthsR.lt k hk).2
 have hlt1 : ∀ k, tv.ownBlock = some k → k < w.heap.size := fun k hk => (h.terms.lt k hk).2
 have hgd : dv'.ownBlock ≠ some gl := by
  intro e
  rcases hat with q | ⟨k, q, hk⟩
  ·exact h.n4 (by rw [← q]; exact e)
  ·rw [q] at e; injection e with e; have := m7.size; omega
 have C1 : Chg (fun k => some k = dv.ownBlock) w2 w3 := (Chg.alloc w2 _ _).trans (Chg.grown hgrow)
 have C2 : Chg (fun k => k = gl) w3 (w3.setCell ⟨gl, 1, none⟩ dv') := Chg.setCell w3 gl 1 _
 have C12 : Chg (fun k => k = gl ∨ some k = dv.ownBlock) w2 (w3.setCell ⟨gl, 1, none⟩ dv') := (C1.mono fun k _ q => .inr q).trans (C2.mono fun k _ q => .inl q)
 have htd : ∀ k, tv'.ownBlock = some k → dv.ownBlock ≠ some k := by
  intro k hk e
  rcases m6 with q | ⟨j, q, hj⟩
  ·exact h.n6 k (by rw [← q]; exact hk) e
  ·rw [q] at hk; injection hk with hk; have := hlt k e; omega
 have htg : tv'.ownBlock ≠ some gl := by
  intro e
  rcases m6 with q | ⟨j, q, hj⟩
  ·exact h.n2 (by rw [← q]; exact e)
  ·rw [q] at e; injection e with e; omega
 refine ⟨?_, ?_, ?_, ?_, ?_, ?_, ?_, ?_, ?_⟩
 ·have := heap_setCell_same w3 gl 1 _ _ dv' (C1.blk m1 (Ne.symm h.n4))
  simpa using this
 ·exact C12.row m2 (fun k hk e => by
   rcases e with e | e
   ·exact htg (by rw [← e]; exact hk)
   ·exact htd k hk e.symm)
 ·exact C2.row hown (fun k hk e => hgd (by rw [← e]; exact hk))
 ·exact C12.own m4 (fun e => by
   rcases e with e | e
   ·exact h.n1 e.symm
   ·exact h.n5 e.symm)
 ·exact C12.blk m5 (fun e => by
   rcases e with e | e
   ·omega
   ·have := hlt _ e.symm; omega)
 ·rcases m6 with q | ⟨j, q, hj⟩
  ·exact .inl q
  ·exact .inr ⟨j, q, by omega⟩
 ·rcases hat with q | ⟨j, q, hj⟩
  ·exact .inl q
  ·exact .inr ⟨j, q, by have := m7.size; omega⟩
 ·intro k hk e
  rcases hat with q | ⟨j, q, hj⟩
  ·exact htd k hk (by rw [← q]; exact e)
  ·rw [q] at e; injection e with e
   have := (m2.lt k hk).2
   omega
 ·exact (m7.mono fun k _ q => by rcases q with q | q; exact .inl q; exact .inr (.inl q)).trans (C12.mono fun k _ q => by rcases q with q | q; exact .inl q; exact .inr (.inr q))
theorem farc {wq w1 : World} {o : Obj} {row : Option Nat} {g i : Nat} {v : Value} (hp : g < wq.heap.size) (hgrow : (wq.alloc o).grownBy w1 row) (hne : row ≠ some g) (c : wq.cell? ⟨g, i, none⟩ = some v) : w1.cell? ⟨g, i, none⟩ = some v := by
 have hb := hgrow.block g (by show g < (wq.heap.push _).size; simp; omega) (fun e => hne e.symm)
 rw [World.cell?_of_block (a := ⟨g, i, none⟩) hb, World.cell?_alloc_past (hn := hp)]; exact c
theorem farf {wq w1 : World} {o : Obj} {row : Option Nat} {g i : Nat} (hp : g < wq.heap.size) (hgrow : (wq.alloc o).grownBy w1 row) (hne : row ≠ some g) (c : wq.frozen? ⟨g, i, none⟩ = false) : w1.frozen? ⟨g, i, none⟩ = false := by
 have hb := hgrow.block g (by show g < (wq.heap.push _).size; simp; omega) (fun e => hne e.symm)
 rw [World.frozen?_of_block (a := ⟨g, i, none⟩) hb, World.frozen?_alloc_past (hn := hp)]; exact c
theorem wf_small (a : Int) (h1 : 0 ≤ a) (h2 : a ≤ 1048577) : (Lit.int .i64 a).wf = true := by
 have e1 : IntKind.i64.min = -9223372036854775808 := by decide
 have e2 : IntKind.i64.max = 9223372036854775807 := by decide
 simp only [Lit.wf, e1, e2, Bool.and_eq_true, decide_eq_true_eq]
 omega
theorem added_of {base gl bm : Nat} {tv dv tv' dv' : Value} {D : DataW Unit} {L : List Tm} {t : Tm} {d : Nat} {kl : Lit} {w w4 w5 : World} (h : LG base gl bm tv dv D L w) (m : Mid2 base gl bm tv dv D L t d w tv' dv' w4)
  (hk : keyOf Tryz.prog 116 t.v = some kl) (hown : w5.ownsMap Tryz.prog 116 (plainElem Tryz.prog 3) bm (L.length + 1) (D.put kl (.lit (.int .i64 ((L.length : Int) + 1))))) (hgrow : w4.drew.grownBy w5 (some bm)) :
  Added base gl bm tv dv D L t d w w5 := by
 obtain ⟨m1, m2, m3, m4, m5, m6, m7, m8, m9⟩ := m
 have C : Chg (fun k => k = bm) w4 w5 := ((Chg.drew w4 _).trans (Chg.grown hgrow)).mono (fun k _ q => by injection q)
 have hlb : bm < w.heap.size := h.names.lt
 have hs := m9.size
 refine ⟨tv', dv', kl, C.blk m1 h.n1, C.row m2 ?_, C.row m3 ?_, hk, hown, m6, m7, m8, (m9.mono fun k _ q => by rcases q with q | q | q; exact .inl q; exact .inr (.inr (.inl q)); exact .inr (.inr (.inr q))).trans (C.mono fun k _ q => .inr (.inl q))⟩
 ·intro k hk e
  subst e
  rcases m6 with q | ⟨j, q, hj⟩
  ·exact h.n3 (by rw [← q]; exact hk)
  ·rw [q] at hk; injection hk with hk; omega
 ·intro k hk e
  subst e
  rcases m7 with q | ⟨j, q, hj⟩
  ·exact h.n5 (by rw [← q]; exact hk)
  ·rw [q] at hk; injection hk with hk; omega
theorem info32 : (Tryz.prog.info? 116).map (fun i => (i.zero, i.size, i.bytes)) = some (some (.agg #[.int .i64 0, .string ⟨#[]⟩, .int .u64 0, .int .i64 0, .int .i64 0, .int .i64 0]), 6, 56) := by kernel_rfl
set_option maxHeartbeats 2000000 in
set_option maxRecDepth 100000 in
theorem log_add (base gl bm : Nat) (tv dv : Value) (D : DataW Unit) (L : List Tm) (t : Tm) (kl : Lit) (d : Nat) (w : World) (h : LG base gl bm tv dv D L w) (hkey : keyOf Tryz.prog 116 t.v = some kl) (hlen : L.length < 1048576) (hd : d ≤ 1048576) (hbase : base ≤ w.heap.size) :
  Calls Tryz.prog 164 #[.pointer (some ⟨gl, 0, none⟩), t.v, .int .i64 d] w fun e w' => e = .returned (.tuple #[]) ∧ Added base gl bm tv dv D L t d w w' := by
 obtain ⟨a, cap, rfl⟩ : ∃ a cap, tv = .slice a L.length cap := by
  rcases h.terms.2 with ⟨hv, hn⟩ | ⟨b, cap, cur, hv, _⟩
  ·exact ⟨none, 0, by rw [hv, hn]⟩
  ·exact ⟨_, cap, hv⟩
 obtain ⟨a2, cap2, rfl⟩ : ∃ a cap, dv = .slice a L.length cap := by
  rcases h.depthsR.2 with ⟨hv, hn⟩ | ⟨b, cap, cur, hv, _⟩
  ·exact ⟨none, 0, by rw [hv, hn]⟩
  ·exact ⟨_, cap, hv⟩
 have HR := Lib.hid h
 have hgl := h.lt
 obtain ⟨K, S, N, A, B, C⟩ := t
 have HK := Lib.hid hkey
 obtain ⟨wq, hwq⟩ : ∃ wq, wq = w.alloc (boxP ⟨K, S, N, A, B, C⟩) := ⟨_, rfl⟩
 have hq : Chg (fun _ => False) w wq := by rw [hwq]; exact Chg.alloc _ _ _
 have hlg := hq.blk h.lg (by simp)
 have c0 : wq.cell? ⟨gl, 0, none⟩ = some (.slice a L.length cap) := by rw [cell_of_row wq gl 0 _ _ _ hlg]; rfl
 have f0 : wq.frozen? ⟨gl, 0, none⟩ = false := frozen_of_row wq gl 0 _ _ hlg
 have z : ∀ j, wq.cell? ⟨w.heap.size, j, none⟩ = #[Value.int .i64 K, .string S, .int .u64 N, .int .i64 A, .int .i64 B, .int .i64 C][j]? := fun j => by rw [hwq]; exact cell_of_row _ _ j _ _ _ (heap_alloc_new w _)
 have z0 := z 0
 have z1 := z 1
 have z2 := z 2
 have z3 := z 3
 have z4 := z 4
 have z5 := z 5
 simp at z0 z1 z2 z3 z4 z5
 have hgq : gl < wq.heap.size := blk_lt hlg
 have hbs : base ≤ wq.heap.size := Nat.le_trans hbase hq.size
 have hown := Lib.hid (hq.row h.terms (by simp))
 have ag : Hid ((Value.slice a L.length cap).ownBlock ≠ some gl) := Lib.hid h.n2
 have HQ := Lib.hid hwq
 obtain ⟨i0, hi0, hz0, hz1, hz2⟩ := info_parts info32
 unfold boxP at hwq
 simp only [] at hwq
 clear h hkey z hlg
 unfold Tm.v
 go_enter Tryz.func164, Tryz.ntmps164
 go_wp2
 rw [← hwq]
 clear hwq hq
 go_region_law
  ((refine step_append_lies _ (by rfl) _ _ _ (by rfl) base 116 i0 _ 6 56 Tryz.underlying22 hi0 hz0 hz1 hz2 rfl (by omega) (.slice a L.length cap) L.length (cellsL L) (by rfl) ((hown.out.alloc _).drew)
      ⟨wq.heap.size, 0, none⟩ 1 1 [.int .i64 K, .string S, .int .u64 N, .int .i64 A, .int .i64 B, .int .i64 C] (by rfl) (by rfl) (World.news_of_block (cs := #[.int .i64 K, .string S, .int .u64 N, .int .i64 A, .int .i64 B, .int .i64 C]) (t := 116) (fr := (0, 0)) (heap_alloc_new wq _)) (by simp [Value.oneCell'])
      (by omega) (by unfold maxLen; omega) (by omega) (by simp; omega) (wq.heap.size + 1) (by simp) ?_; intro gg cap' w1 hown1 hgrow hat hlt2; have y0 := far_cell hgq hgrow ag.out c0; have y1 := far_free hgq hgrow ag.out f0; have O1 := Lib.hid hown1; have O2 := Lib.hid hgrow; have O3 := Lib.hid hat; clear hown1 hgrow hat))
 all_goals
  have hM := mid1 HR.out O1.out (by have := O2.out; rw [HQ.out] at this; exact this) (by have := O3.out; rw [HQ.out] at this; exact this)
  generalize (w1.setCell ⟨gl, 0, none⟩ (.slice (some ⟨gg, 0, none⟩) (L.length + 1) cap')) = w2 at hM ⊢
  have HM := Lib.hid hM
  have c1 : w2.cell? ⟨gl, 1, none⟩ = some (.slice a2 L.length cap2) := by rw [cell_of_row w2 gl 1 _ _ _ hM.1]; rfl
  have f1 : w2.frozen? ⟨gl, 1, none⟩ = false := frozen_of_row w2 gl 1 _ _ hM.1
  have HO := Lib.hid hM.2.2.1
  have hg2 : gl < w2.heap.size := blk_lt hM.1
  have hb2 : base ≤ w2.heap.size := Nat.le_trans hbase hM.2.2.2.2.2.2.size
  have ad : Hid ((Value.slice a2 L.length cap2).ownBlock ≠ some gl) := Lib.hid HR.out.n4
  clear hM y0 y1 O1 O2 O3 z0 z1 z2 z3 z4 z5 c0 f0 hown hbs hgq hi0 hz0 hz1 hz2 hlt2
  obtain ⟨j0, hi0, hz0, hz1, hz2⟩ := info_parts info3
  go_wp2_with (at_builtin; refine wpList_append_lies _ rfl _ _ 94 rfl base 3 j0 (.int .i64 0) 1 8 Tryz.underlying94 hi0 hz0 hz1 hz2 rfl (by decide) _ _ _ rfl (HO.out.alloc _) ⟨w2.heap.size, 0, none⟩ 1 1 [.int .i64 d] rfl rfl (World.news_of_block (cs := #[.int .i64 d]) (t := 3) (fr := (0, 0)) (heap_alloc_new w2 _)) (by simp [Value.oneCell']) (by omega) (by unfold maxLen; omega) (by omega) (by simp; omega) (w2.heap.size + 1) (by simp) ?_; intro g2 cap3 w3 hown2 hgrow2 hat2 hlt3; have y1 := farc hg2 hgrow2 ad.out c1; have g1 := farf hg2 hgrow2 ad.out f1; have P1 := Lib.hid hown2; have P2 := Lib.hid hgrow2; have P3 := Lib.hid hat2; clear hown2 hgrow2 hat2)
  have hN := mid2 HR.out HM.out P1.out P2.out (by
   rcases P3.out with q | q
   ·exact .inl q.symm
   ·exact .inr ⟨g2, rfl, by rw [q]; exact Nat.le_succ _⟩)
  generalize (w3.setCell ⟨gl, 1, none⟩ (.slice (some ⟨g2, 0, none⟩) (L.length + 1) cap3)) = w4 at hN ⊢
  have HN := Lib.hid hN
  have c0 : w4.cell? ⟨gl, 0, none⟩ = some (.slice (some ⟨gg, 0, none⟩) (L.length + 1) cap') := by rw [cell_of_row w4 gl 0 _ _ _ hN.1]; rfl
  have c2 : w4.cell? ⟨gl, 2, none⟩ = some (.map (some bm)) := by rw [cell_of_row w4 gl 2 _ _ _ hN.1]; rfl
  have z : ∀ j, w4.cell? ⟨w.heap.size, j, none⟩ = #[Value.int .i64 K, .string S, .int .u64 N, .int .i64 A, .int .i64 B, .int .i64 C][j]? := fun j => cell_of_row _ _ j _ _ _ hN.2.2.2.2.1
  have z0 := z 0
  have z1 := z 1
  have z2 := z 2
  have z3 := z 3
  have z4 := z 4
  have z5 := z 5
  simp at z0 z1 z2 z3 z4 z5
  clear z hN y1 g1 P1 P2 P3 c1 f1 HM HO hi0 hz0 hz1 hz2 hlt3
  have hml : L.length < maxLen := by unfold maxLen; omega
  have hwf : (Lit.int .i64 ((L.length : Int) + 1)).wf = true := wf_small _ (by omega) (by omega)
  go_still_tail 10, (by kernel_rfl)
  change wpList _ _ _ _ _ w4.drew
  have hmw : w4.drew.ownsMap Tryz.prog 116 (plainElem Tryz.prog 3) bm L.length D := HN.out.2.2.2.1.drew
  have HMW := Lib.hid hmw
  clear hmw z0 z1 z2 z3 z4 z5 c0 c2
  go_wp2_with (at_mapUpdate; refine wpList_mapUpdate_own _ rfl _ _ _ 185 rfl 116 3 law32 Tryz.underlying185 _ bm L.length D rfl HMW.out hml _ _ kl rfl rfl HK.out (.lit (.int .i64 ((L.length : Int) + 1))) [] (plainElem_int Tryz.underlying3 hwf) ?_; intro w5 hown5 hgrow5; have R1 := Lib.hid hown5; have R2 := Lib.hid hgrow5; clear hown5 hgrow5)
  go_end0
  exact ⟨rfl, added_of HR.out HN.out HK.out R1.out R2.out⟩
structure PSx (base g gl bm : Nat) (tv dv : Value) (D : DataW Unit) (F : Nat → Prop) (L : List Tm) (most : Int) (w : World) : Prop where
 st : w.heap[g]? = some (.cells #[.int .i64 most, .int .i64 L.length, .pointer (some ⟨gl, 0, none⟩)] 164 (0, 0))
 log : LG base gl bm tv dv D L w
 gb : base ≤ g
 e1 : g ≠ gl
 e2 : g ≠ bm
 e3 : tv.ownBlock ≠ some g
 e4 : dv.ownBlock ≠ some g
 room : (L.length : Int) ≤ most
 most : most ≤ 1048576
 fit : Fit L
 f1 : F g
 f2 : F gl
 f3 : F bm
 f4 : ∀ k, tv.ownBlock = some k → F k
 f5 : ∀ k, dv.ownBlock = some k → F k
 f6 : ∀ k, F k → base ≤ k ∧ k < w.heap.size
def PS (base g : Nat) (F : Nat → Prop) (L : List Tm) (most : Int) (w : World) : Prop := ∃ gl bm tv dv D, PSx base g gl bm tv dv D F L most w
theorem PSx.chg {base g gl bm : Nat} {tv dv : Value} {D : DataW Unit} {F S : Nat → Prop} {L : List Tm} {most : Int} {w w' : World} (h : PSx base g gl bm tv dv D F L most w) (hc : Chg S w w') (hn : ∀ k, F k → ¬ S k) :
  PSx base g gl bm tv dv D F L most w' where
 st := hc.blk h.st (hn g h.f1)
 log := { h.log with
  lg := hc.blk h.log.lg (hn gl h.f2)
  terms := hc.row h.log.terms (fun k hk => hn k (h.f4 k hk))
  depthsR := hc.row h.log.depthsR (fun k hk => hn k (h.f5 k hk))
  names := hc.own h.log.names (hn bm h.f3) }
 gb := h.gb
 e1 := h.e1
 e2 := h.e2
 e3 := h.e3
 e4 := h.e4
 room := h.room
 most := h.most
 fit := h.fit
 f1 := h.f1
 f2 := h.f2
 f3 := h.f3
 f4 := h.f4
 f5 := h.f5
 f6 := fun k hk => ⟨(h.f6 k hk).1, Nat.lt_of_lt_of_le (h.f6 k hk).2 hc.size⟩
theorem PSx.below {base g gl bm : Nat} {tv dv : Value} {D : DataW Unit} {F : Nat → Prop} {L : List Tm} {most : Int} {w w' : World} (h : PSx base g gl bm tv dv D F L most w) (hb : Below w.heap.size w w') :
  PSx base g gl bm tv dv D F L most w' := h.chg (S := fun _ => False) (.of_below hb) (fun _ _ q => q)
theorem PSx.cells {base g gl bm : Nat} {tv dv : Value} {D : DataW Unit} {F : Nat → Prop} {L : List Tm} {most : Int} {w : World} (h : PSx base g gl bm tv dv D F L most w) :
  w.cell? ⟨g, 0, none⟩ = some (.int .i64 most) ∧ w.cell? ⟨g, 1, none⟩ = some (.int .i64 L.length) ∧ w.cell? ⟨g, 2, none⟩ = some (.pointer (some ⟨gl, 0, none⟩)) ∧
  w.cell? ⟨gl, 0, none⟩ = some tv ∧ w.cell? ⟨gl, 1, none⟩ = some dv ∧ w.cell? ⟨gl, 2, none⟩ = some (.map (some bm)) := by
 refine ⟨?_, ?_, ?_, ?_, ?_, ?_⟩
 ·rw [cell_of_row w g 0 _ _ _ h.st]; rfl
 ·rw [cell_of_row w g 1 _ _ _ h.st]; rfl
 ·rw [cell_of_row w g 2 _ _ _ h.st]; rfl
 ·rw [cell_of_row w gl 0 _ _ _ h.log.lg]; rfl
 ·rw [cell_of_row w gl 1 _ _ _ h.log.lg]; rfl
 ·rw [cell_of_row w gl 2 _ _ _ h.log.lg]; rfl
theorem depths_prefix (L : List Tm) (q : Nat) : ∀ k, q ≤ k → k ≤ L.length → (depths (L.take k)).getD q 0 = (depths (L.take q)).getD q 0 := by
 intro k
 induction k with
 | zero =>
  intro h _
  have e : q = 0 := by omega
  rw [e]
 | succ k ih =>
  intro h hk
  by_cases e : q = k + 1
  ·rw [e]
  ·rw [← ih (by omega) (by omega), take_snocT L k (by omega), depths_snoc, stepD]
   have hl : q < (depths (L.take k)).length := by rw [depths_length, List.length_take]; omega
   simp [List.getD, List.getElem?_append_left hl]
theorem depthOf_in (L : List Tm) (q : Nat) (h1 : 1 ≤ q) (h2 : q ≤ L.length) : depthOf L (q : Int) = ((depths L).getD q 0 : Nat) := by
 unfold depthOf
 rw [if_pos (by omega)]
 have := depths_prefix L q L.length h2 (Nat.le_refl _)
 rw [List.take_length] at this
 rw [this]; simp
theorem deps_at (L : List Tm) (k : Nat) (hk : k < L.length) : (deps L)[k]? = some (.int .i64 (((depths L).getD (k + 1) 0 : Nat))) := by
 have hl : k + 1 < (depths L).length := by rw [depths_length]; omega
 simp [deps, intsV, List.getD, List.getElem?_eq_getElem hl]
theorem addr_add (b k : Nat) : (⟨b, 0, none⟩ : Addr).add k = ⟨b, k, none⟩ := by unfold Addr.add; split <;> simp_all
theorem row_cells {base b n : Nat} {v : Value} {L : List Tm} {w : World} (h : w.ownsRow base 116 6 v L.length (cellsL L)) (hv : v.ownBlock = some b) (k : Nat) (hk : k < L.length) :
  ∀ j u, (L.getD k zeroT).cl[j]? = some u → w.cell? ⟨b, k * 6 + j, none⟩ = some u := by
 intro j u hj
 have hj6 : j < 6 := by
  rcases Nat.lt_or_ge j 6 with q | q
  ·exact q
  ·rw [List.getElem?_eq_none (by simp [Tm.cl]; omega)] at hj; cases hj
 have := h.cells hv (k * 6 + j) u (by rw [cellsL_at L k j hj6 hk]; exact hj)
 rwa [addr_add] at this
set_option maxHeartbeats 1000000 in
theorem getP_any {base g gl bm : Nat} {tv dv : Value} {D : DataW Unit} {F : Nat → Prop} {L : List Tm} {most : Int} (w : World) (h : PSx base g gl bm tv dv D F L most w) (name : Int) :
  Calls Tryz.prog 102 #[.pointer (some ⟨g, 0, none⟩), .int .i64 name] w fun e w' => e = .returned (.tuple #[(getT L name).1.v, .bool (getT L name).2]) ∧ Below w.heap.size w w' := by
 obtain ⟨a0, a1, a2, c0, c1, c2⟩ := h.cells
 have hgb := block_lt_of_cell a1
 have hglb := block_lt_of_cell c0
 dsimp only at hgb hglb
 have hm := h.log.most
 by_cases hin : 1 ≤ name ∧ name ≤ (L.length : Int)
 ·obtain ⟨k, rfl⟩ : ∃ k : Nat, name = (k : Int) + 1 := ⟨(name - 1).toNat, by omega⟩
  have hk : k < L.length := by omega
  obtain ⟨b, cap, rfl, hb1, hb2⟩ := h.log.terms.form (by omega)
  have hrow := row_cells (n := 0) h.log.terms (b := b) rfl k hk
  have e : getT L ((k : Int) + 1) = (L.getD k zeroT, true) := by unfold getT; rw [if_pos (by omega), show ((k : Int) + 1 - 1).toNat = k from by omega]
  rw [e]
  obtain ⟨⟨K, S, N, A, B, C⟩, ht⟩ : ∃ u, u = L.getD k zeroT := ⟨_, rfl⟩
  rw [← ht] at hrow ⊢
  have q0 := hrow 0 _ rfl
  have q1 := hrow 1 _ rfl
  have q2 := hrow 2 _ rfl
  have q3 := hrow 3 _ rfl
  have q4 := hrow 4 _ rfl
  have q5 := hrow 5 _ rfl
  simp at q0 q1 q2 q3 q4 q5
  have hd : decide (1 ≤ (k : Int) + 1 ∧ (k : Int) + 1 ≤ (L.length : Int)) = true := decide_eq_true hin
  have hk3 : (k : Int) < L.length := by omega
  have e4 : (k : Int) + 1 - 1 = k := by omega
  have a1w := fun (o : Obj) => (World.cell?_alloc_past o g 1 hgb).trans a1
  clear hrow ht e h c1 c2 a0 hin
  go_enter Tryz.func102, Tryz.ntmps102
  go_wp2_with fail
  refine (has_any g L.length _ _ (a1w _)).mono ?_
  rintro e w1 ⟨rfl, rfl⟩
  rw [hd]
  go_wp2
  exact bodyPost_ret (v := .tuple #[Tm.v ⟨K, S, N, A, B, C⟩, .bool true]) (by simp [results, Tryz.results102, go_sem, Tm.v]) rfl ⟨rfl, (Below.refl _ _).alloc (Nat.le_refl _) _⟩
 ·have e : getT L name = (zeroT, false) := by unfold getT; rw [if_neg hin]
  rw [e]
  have hd : decide (1 ≤ name ∧ name ≤ (L.length : Int)) = false := decide_eq_false hin
  have a1w := fun (o : Obj) => (World.cell?_alloc_past o g 1 hgb).trans a1
  clear e h c0 c1 c2 a0 a2 hin
  go_enter Tryz.func102, Tryz.ntmps102
  go_wp2_with fail
  refine (has_any g L.length _ _ (a1w _)).mono ?_
  rintro e w1 ⟨rfl, rfl⟩
  rw [hd]
  go_wp2
  exact bodyPost_ret (v := .tuple #[zeroT.v, .bool false]) (by simp [results, Tryz.results102, go_sem, zeroT, Tm.v]) rfl ⟨rfl, (Below.refl _ _).alloc (Nat.le_refl _) _⟩
set_option maxHeartbeats 1000000 in
theorem depthP_any {base g gl bm : Nat} {tv dv : Value} {D : DataW Unit} {F : Nat → Prop} {L : List Tm} {most : Int} (w : World) (h : PSx base g gl bm tv dv D F L most w) (name : Int) :
  Calls Tryz.prog 163 #[.pointer (some ⟨g, 0, none⟩), .int .i64 name] w fun e w' => e = .returned (.int .i64 (depthOf L name)) ∧ w = w' := by
 obtain ⟨a0, a1, a2, c0, c1, c2⟩ := h.cells
 have hm := h.log.most
 by_cases hin : 1 ≤ name ∧ name ≤ (L.length : Int)
 ·obtain ⟨k, rfl⟩ : ∃ k : Nat, name = (k : Int) + 1 := ⟨(name - 1).toNat, by omega⟩
  have hk : k < L.length := by omega
  obtain ⟨b, cap, rfl, hb1, hb2⟩ := h.log.depthsR.form (by omega)
  have q0 : w.cell? ⟨b, k, none⟩ = some (.int .i64 (((depths L).getD (k + 1) 0 : Nat))) := by
   have := h.log.depthsR.cells (g := b) rfl k _ (deps_at L k hk)
   rwa [addr_add] at this
  have hdo := depthOf_in L (k + 1) (by omega) (by omega)
  rw [show ((k + 1 : Nat) : Int) = (k : Int) + 1 from by omega] at hdo
  rw [hdo]
  have hd : decide (1 ≤ (k : Int) + 1 ∧ (k : Int) + 1 ≤ (L.length : Int)) = true := decide_eq_true hin
  have hk3 : (k : Int) < L.length := by omega
  have e4 : (k : Int) + 1 - 1 = k := by omega
  clear hdo h c0 c2 a0 hin
  go_enter Tryz.func163, Tryz.ntmps163
  go_wp2_with fail
  refine (has_any g L.length _ _ a1).mono ?_
  rintro e w1 ⟨rfl, rfl⟩
  rw [hd]
  go_wp2
  go_ret
  exact ⟨by simp, rfl⟩
 ·have e : depthOf L name = 0 := by unfold depthOf; rw [if_neg hin]
  rw [e]
  have hd : decide (1 ≤ name ∧ name ≤ (L.length : Int)) = false := decide_eq_false hin
  clear e h c0 c1 c2 a0 a2 hin
  go_enter Tryz.func163, Tryz.ntmps163
  go_wp2_with fail
  refine (has_any g L.length _ _ a1).mono ?_
  rintro e w1 ⟨rfl, rfl⟩
  rw [hd]
  go_wp2
  go_ret
  exact ⟨by rfl, rfl⟩
theorem lenP_any {base g gl bm : Nat} {tv dv : Value} {D : DataW Unit} {F : Nat → Prop} {L : List Tm} {most : Int} (w : World) (h : PSx base g gl bm tv dv D F L most w) :
  Calls Tryz.prog 36 #[.pointer (some ⟨g, 0, none⟩)] w fun e w' => e = .returned (.int .i64 L.length) ∧ w = w' := len_any g L.length w h.cells.2.1
theorem made (base : Nat) (most : Int) (w : World) (h1 : 0 ≤ most) (h2 : most ≤ 1048576) (hb : base ≤ w.heap.size) :
  PS base (w.heap.size + 2) (fun k => w.heap.size ≤ k ∧ k < (((w.alloc (.map #[] 0)).alloc (.cells #[.slice none 0 0, .slice none 0 0, .map (some w.heap.size)] 192)).alloc (.cells #[.int .i64 most, .int .i64 0, .pointer (some ⟨w.heap.size + 1, 0, none⟩)] 164)).heap.size) [] most
   (((w.alloc (.map #[] 0)).alloc (.cells #[.slice none 0 0, .slice none 0 0, .map (some w.heap.size)] 192)).alloc (.cells #[.int .i64 most, .int .i64 0, .pointer (some ⟨w.heap.size + 1, 0, none⟩)] 164)) := by
 have hs1 : (w.alloc (.map #[] 0)).heap.size = w.heap.size + 1 := by simp
 obtain ⟨W1, hW1⟩ : ∃ W1, W1 = w.alloc (.map #[] 0) := ⟨_, rfl⟩
 have m1 : W1.ownsMap Tryz.prog 116 (plainElem Tryz.prog 3) w.heap.size 0 (.map [] : DataW Unit) := by rw [hW1]; exact World.ownsMap_made _ _ _ _
 rw [← hW1] at hs1 ⊢
 clear hW1
 obtain ⟨W2, hW2⟩ : ∃ W2, W2 = W1.alloc (.cells #[.slice none 0 0, .slice none 0 0, .map (some w.heap.size)] 192) := ⟨_, rfl⟩
 have hs2 : W2.heap.size = w.heap.size + 2 := by rw [hW2]; simp [hs1]
 have m2 : W2.ownsMap Tryz.prog 116 (plainElem Tryz.prog 3) w.heap.size 0 (.map [] : DataW Unit) := by rw [hW2]; exact m1.alloc _
 have l2 : W2.heap[w.heap.size + 1]? = some (.cells #[.slice none 0 0, .slice none 0 0, .map (some w.heap.size)] 192 (0, 0)) := by rw [hW2, ← hs1]; exact heap_alloc_new W1 _
 rw [← hW2]
 clear hW2 m1
 obtain ⟨W3, hW3⟩ : ∃ W3, W3 = W2.alloc (.cells #[.int .i64 most, .int .i64 0, .pointer (some ⟨w.heap.size + 1, 0, none⟩)] 164) := ⟨_, rfl⟩
 have hs3 : W3.heap.size = w.heap.size + 3 := by rw [hW3]; simp [hs2]
 have m3 : W3.ownsMap Tryz.prog 116 (plainElem Tryz.prog 3) w.heap.size 0 (.map [] : DataW Unit) := by rw [hW3]; exact m2.alloc _
 have l3 : W3.heap[w.heap.size + 1]? = some (.cells #[.slice none 0 0, .slice none 0 0, .map (some w.heap.size)] 192 (0, 0)) := by
  rw [hW3]; exact (Chg.alloc W2 _ (fun _ => False)).blk l2 (fun q => q)
 have g3 : W3.heap[w.heap.size + 2]? = some (.cells #[.int .i64 most, .int .i64 0, .pointer (some ⟨w.heap.size + 1, 0, none⟩)] 164 (0, 0)) := by rw [hW3, ← hs2]; exact heap_alloc_new W2 _
 rw [← hW3]
 clear hW3 m2 l2
 refine ⟨w.heap.size + 1, w.heap.size, .slice none 0 0, .slice none 0 0, .map [], {
  st := g3, log := {
   lg := l3, terms := ⟨rfl, .inl ⟨rfl, rfl⟩⟩, depthsR := ⟨rfl, .inl ⟨rfl, rfl⟩⟩, names := m3, ok := NameOk.nil, gb := by omega, bb := hb, n1 := by omega,
   n2 := by simp [Value.ownBlock], n3 := by simp [Value.ownBlock], n4 := by simp [Value.ownBlock], n5 := by simp [Value.ownBlock], n6 := by simp [Value.ownBlock], most := by simp },
  gb := by omega, e1 := by omega, e2 := by omega, e3 := by simp [Value.ownBlock], e4 := by simp [Value.ownBlock], room := by simpa using h1, most := h2,
  fit := fun k hk => by simp at hk,
  f1 := by omega, f2 := by omega, f3 := by omega, f4 := by simp [Value.ownBlock], f5 := by simp [Value.ownBlock], f6 := fun k hk => ⟨by omega, hk.2⟩ }⟩
set_option maxHeartbeats 400000 in
theorem newP_good (base : Nat) (most : Int) (w : World) (h1 : 0 ≤ most) (h2 : most ≤ 1048576) (hb : base ≤ w.heap.size) :
  Calls Tryz.prog 40 #[.int .i64 most] w fun e w' => ∃ g, e = .returned (.tuple #[.pointer (some ⟨g, 0, none⟩), .int .i64 0]) ∧ PS base g (fun k => w.heap.size ≤ k ∧ k < w'.heap.size) [] most w' ∧ Below w.heap.size w w' := by
 have e1 : decide (most < 0) = false := by simp; omega
 have e2 : decide ((1048576 : Int) < most) = false := by simp; omega
 have hmm := @run_makeMap Tryz.prog
 go_enter Tryz.func40, Tryz.ntmps40
 go_wp2
 go_ret2
 exact ⟨w.heap.size + 2, by simp, made base most w h1 h2 hb, (((Below.refl _ _).alloc (Nat.le_refl _) _).alloc (by simp) _).alloc (by simp; omega) _⟩
end Go.Proofs.YtgeonppckeiceaaGreatDoor
namespace Go.Proofs
open Go.Shelf
def Tryz.laysM316_ren : Go.Shelf.Ren := ⟨fun | 316 => 197 | n => n, fun | 9 => 9 | 3 => 3 | 4 => 4 | 37 => 89 | 0 => 0 | 127 => 276 | 5 => 5 | n => n, fun | n => n⟩
theorem Tryz.laysM316 : Go.Proofs.LaysM.n316 Tryz.prog Tryz.laysM316_ren := {
 mixed := by kernel_rfl
 f316 := Tryz.func197.trans (congrArg some (by kernel_rfl))
 t0 := Tryz.underlying0
 a0 := Tryz.isAgg0
 z0 := Tryz.sizeOf0
 v0 := Tryz.zeroValue0
 t3 := Tryz.underlying3
 a3 := Tryz.isAgg3
 z3 := Tryz.sizeOf3
 v3 := Tryz.zeroValue3
 t4 := Tryz.underlying4
 a4 := Tryz.isAgg4
 z4 := Tryz.sizeOf4
 v4 := Tryz.zeroValue4
 t9 := Tryz.underlying9
 a9 := Tryz.isAgg9
 z9 := Tryz.sizeOf9
 v9 := Tryz.zeroValue9
 t37 := Tryz.underlying89
 a37 := Tryz.isAgg89
 z37 := Tryz.sizeOf89
 v37 := Tryz.zeroValue89
 t127 := Tryz.underlying276
 a127 := Tryz.isAgg276
 z127 := Tryz.sizeOf276
 v127 := Tryz.zeroValue276
 t5 := Tryz.underlying5
 a5 := Tryz.isAgg5
 z5 := Tryz.sizeOf5
 v5 := Tryz.zeroValue5
 i0 := by kernel_rfl
 i3 := by kernel_rfl
 i4 := by kernel_rfl
 i5 := by kernel_rfl
 i9 := by kernel_rfl
 i37 := by kernel_rfl
 i127 := by kernel_rfl }
open Go.RowKit in
theorem Tryz.stringslite_Clone (s : ByteArray) (w : World) (hlim : s.size ≤ 281474976710656) :
  Calls Tryz.prog 197 #[.string s] w fun e w' => e = .returned (.string s) ∧ Below w.heap.size w w' := Any.stringslite_Clone Tryz.laysM316 s w hlim
end Go.Proofs
