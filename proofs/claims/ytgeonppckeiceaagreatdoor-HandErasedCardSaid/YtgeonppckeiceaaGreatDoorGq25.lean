/- The program's calls (by tools/stage17/calls.py). -/
import Derived.Test.YtgeonppckeiceaaGreatDoorGq01
import Derived.Test.YtgeonppckeiceaaGreatDoorGq24
import Derived.Deep.WholeRow
namespace Go.Proofs.YtgeonppckeiceaaGreatDoor
open Go.RowKit
set_option linter.unusedVariables false
set_option linter.unusedSimpArgs false
set_option maxRecDepth 20000
theorem wpList_step {P : Program} {ops : Array Oper} {Q : Exit → Act → World → Prop} {rest : List Oper} {o : Oper} {a : Act} {w w' : World} {v : Value} (hg : o.guard = none) (h : (execOp a.eval o).run P w = .ok (.value v) w') (k : wpList P ops Q rest (a.put o.dst v) w') : wpList P ops Q (o :: rest) a w :=
 wpList_plain hg fun K hK => by
  unfold Oper.wp
  rw [h]
  exact hK _ _ k
def putL : List Value → Nat → List Value → List Value
 | rest, _, [] => rest
 | rest, j, v :: r => putL (rest.set j v) (j + 1) r
def putA : Array Value → Nat → List Value → Array Value
 | cs, _, [] => cs
 | cs, o, v :: r => putA (cs.setIfInBounds o v) (o + 1) r
theorem row_setCells {b : Nat} {t : TypeId} : ∀ (vs : List Value) (o : Nat) (w : World) (cs : Array Value), w.heap[b]? = some (.cells cs t (0, 0)) → (w.setCells b o vs).heap[b]? = some (.cells (putA cs o vs) t (0, 0))
 | [], _, _, _, h => h
 | v :: r, o, w, cs, h => row_setCells r (o + 1) _ _ (row_set o v h)
theorem putA_is : ∀ (vs l : List Value) (o : Nat), o + vs.length ≤ l.length → putA l.toArray o vs = (l.take o ++ vs ++ l.drop (o + vs.length)).toArray
 | [], l, o, _ => by simp [putA]
 | v :: r, l, o, h => by
  have ho : o < l.length := by simp at h; omega
  show putA (l.toArray.setIfInBounds o v) (o + 1) r = _
  rw [List.setIfInBounds_toArray, putA_is r (l.set o v) (o + 1) (by simp at h ⊢; omega)]
  congr 1
  rw [List.take_succ_eq_append_getElem (by simp; exact ho), List.take_set_of_le (Nat.le_refl _), List.drop_set_of_lt (by omega)]
  simp [Nat.add_assoc, Nat.add_comm 1]
theorem putA_all (vs : List Value) (cs : Array Value) (h : cs.size = vs.length) : putA cs 0 vs = vs.toArray := by
 have := putA_is vs cs.toList 0 (by simp; omega)
 rw [Array.toArray_toList] at this
 rw [this]
 congr 1
 simp
 omega
theorem row_all {b : Nat} {t : TypeId} (vs : List Value) {w : World} {cs : Array Value} (h : w.heap[b]? = some (.cells cs t (0, 0))) (hl : cs.size = vs.length) : (w.setCells b 0 vs).heap[b]? = some (.cells vs.toArray t (0, 0)) := by
 rw [row_setCells vs 0 w cs h, putA_all vs cs hl]
theorem chg_setCells (b : Nat) : ∀ (vs : List Value) (o : Nat) (w : World), Chg (· = b) w (w.setCells b o vs)
 | [], _, w => ⟨rfl, rfl, rfl, Nat.le_refl _, fun _ _ _ => rfl⟩
 | v :: r, o, w => (chg_one w b o v).trans (chg_setCells b r (o + 1) _)
abbrev bgO0 (P : BgP) : Obj := .cells #[.int .i64 P.a1, .int .i64 P.a2] 33 (0, 0)
abbrev bgO1 (P : BgP) : Obj := .cells #[.int .i64 P.p.dh, .int .i64 P.p.kem, .int .i64 P.p.k0, .int .i64 P.p.k1] 43 (0, 0)
abbrev bgO2 (P : BgP) (f0 : Int) (f2 : Int) (f5 : Int) (f6 : Int) (f7 : Int) (f8 : Int) (f9 : Int) (f10 : Int) (f11 : Int) (f12 : Int) : Obj := .cells #[.int .i64 f0, .int .u64 P.fr, .int .u64 f2, .string P.offer, .int .i64 P.slot, .int .i64 f5, .int .i64 f6, .int .i64 f7, .int .i64 f8, .int .i64 f9, .int .i64 f10, .int .u64 f11, .int .u64 f12] 25 (0, 0)
abbrev bgO3 (P : BgP) : Obj := .cells #[.int .i64 P.d0, .int .i64 P.d1, .int .i64 P.d2] 50 (0, 0)
abbrev bgO4 : Obj := .cells #[.int .i64 0, .int .u64 0, .int .u64 0, .string ⟨#[]⟩, .int .i64 0, .int .i64 0, .int .i64 0, .int .i64 0, .int .i64 0, .int .i64 0, .int .i64 0, .int .u64 0, .int .u64 0] 25 (0, 0)
abbrev bgO5 : Obj := .cells #[.int .i64 0, .int .i64 0, .int .i64 0, .int .u64 0, .int .i64 0, .int .i64 0, .string ⟨#[]⟩] 47 (0, 0)
section
variable {base g B : Nat} {most : Int} {Q2 : (Nat → Prop) → List Tm → World → Prop} {L L' L2 : List Tm} {bs : List (Nat × Obj)} {T : TypeId} {y : Sy} {w0 w w' : World}
theorem Tk.putN (g2 : Good base Q2) : ∀ (vs : List Value) (j : Nat) (rest : List Value) (w : World), Tk base g most Q2 L L2 bs B T y rest w0 w → Tk base g most Q2 L L2 bs B T y (putL rest j vs) w0 (w.setCells B (j + 5) vs)
 | [], _, _, _, h => h
 | v :: r, j, rest, w, h => by
  have h1 := Tk.putN g2 r (j + 1) (rest.set j v) _ (h.put g2 j v)
  rw [show j + 1 + 5 = j + 5 + 1 by omega] at h1
  exact h1
theorem there_row {b o n : Nat} {C : Array Value} {t : TypeId} {w : World} (h : w.heap[b]? = some (.cells C t (0, 0))) (hl : o + n ≤ C.size) : w.there b o n := fun j hj => by
 refine ⟨?_, frz_of_row _ h⟩
 simp only [World.cell?, h]
 simp
 omega
theorem Cs.turnB {b : Nat} {o o' : Obj} (g2 : Good base Q2) (h : Cs base (PSq base g most) Q2 L L2 ((b, o) :: bs) w0 w) (lo : base ≤ b) (new : ∀ o, (b, o) ∉ bs) (hc : Chg (· = b) w w') (hr : w'.heap[b]? = some o') : Cs base (PSq base g most) Q2 L L2 ((b, o') :: bs) w0 w' := by
 obtain ⟨⟨F1, F2, h1, h2, h3, h4, h5, h6⟩, hk, hsd⟩ := h
 have hB := h4 b ⟨_, List.mem_cons_self⟩
 refine ⟨⟨F1, F2, (PSq.good base g most).frame h1 hc (fun k q s => ?_), g2.frame h2 hc (fun k q s => ?_), h3, fun k ⟨o, q⟩ => ?_, h5, ?_⟩, fun k o q => ?_, hsd⟩
 ·subst s; exact hB.1 q
 ·subst s; exact hB.2.1 q
 ·rcases List.mem_cons.1 q with e | e
  ·injection e with e1 e2
   subst e1
   exact ⟨hB.1, hB.2.1, Nat.lt_of_lt_of_le hB.2.2 hc.size⟩
  ·have := h4 k ⟨o, List.mem_cons_of_mem _ e⟩
   exact ⟨this.1, this.2.1, Nat.lt_of_lt_of_le this.2.2 hc.size⟩
 ·refine ⟨hc.os.trans h6.os, hc.tape.trans h6.tape, hc.output.trans h6.output, Nat.le_trans h6.size hc.size, fun k hlt => ?_⟩
  have hl2 : k < w.heap.size := Nat.lt_of_lt_of_le (by omega) h6.size
  exact (hc.block k hl2 (by omega)).trans (h6.block k hlt)
 ·rcases List.mem_cons.1 q with e | e
  ·injection e with e1 e2
   subst e1 e2
   exact hr
  ·have hne : k ≠ b := fun q => new o (by rw [← q]; exact e)
   exact (hc.block k (lt_some (hk k o (List.mem_cons_of_mem _ e))) hne).trans (hk k o (List.mem_cons_of_mem _ e))
theorem Cs.talk2 (g2 : Good base Q2) (h : Cs base (PSq base g most) Q2 L L2 bs w0 w) {zs : Array Value} {vs : List Value} {t : TypeId} (y : Sy) (rest : List Value) {b : Nat} (hb : w.heap.size = b) (hy : y.Wf) (hz : zs.size = vs.length) (hc : vs = tkL g y rest) :
  Tk base g most Q2 L L2 bs b t y rest w0 ((w.alloc (.cells zs t : Obj)).setCells b 0 vs) := by
 subst hb
 have c := h.box (PSq.good base g most) g2 zs t
 have hn : ∀ o, (w.heap.size, o) ∉ bs := fun o q => by have := h.pair.klt _ ⟨o, q⟩; omega
 refine ⟨c.turnB g2 h.pair.base_le hn (chg_setCells _ _ _ _) ?_, h.pair.base_le, hn, hy⟩
 rw [row_setCells vs 0 _ zs (heap_alloc_new _ _), putA_all vs zs hz, hc]
 rfl
theorem Tk.writes {b : Nat} {o : Obj} {bs' : List (Nat × Obj)} {rest : List Value} (g2 : Good base Q2) (h : Tk base g most Q2 L L2 bs B T y rest w0 w) (hm : (b, o) ∈ bs) (hb : base ≤ b) (hc : Chg (· = b) w w') (hs : ∀ x, x ∈ bs' → x ∈ bs ∧ x.1 ≠ b) : Tk base g most Q2 L L2 bs' B T y rest w0 w' := by
 have hne : b ≠ B := fun q => h.new o (by rw [← q]; exact hm)
 refine ⟨h.cs.set (PSq.good base g most) g2 (· = b) (fun k q => by subst q; exact ⟨hb, o, List.mem_cons_of_mem _ hm⟩) hc (fun x q => ?_), h.lo, fun o q => h.new o (hs _ q).1, h.wf⟩
 rcases List.mem_cons.1 q with e | e
 ·subst e
  exact ⟨List.mem_cons_self, fun q => hne q.symm⟩
 ·exact ⟨List.mem_cons_of_mem _ (hs _ e).1, (hs _ e).2⟩
theorem Cs.writes {b : Nat} {o : Obj} {bs' : List (Nat × Obj)} (g2 : Good base Q2) (h : Cs base (PSq base g most) Q2 L L2 bs w0 w) (hm : (b, o) ∈ bs) (hb : base ≤ b) (hc : Chg (· = b) w w') (hs : ∀ x, x ∈ bs' → x ∈ bs ∧ x.1 ≠ b) : Cs base (PSq base g most) Q2 L L2 bs' w0 w' :=
 h.set (PSq.good base g most) g2 (· = b) (fun k q => by subst q; exact ⟨hb, o, hm⟩) hc hs
theorem Cs.drop {b : Nat} {o : Obj} (g2 : Good base Q2) (h : Cs base (PSq base g most) Q2 L L2 ((b, o) :: bs) w0 w) (hb : base ≤ b) (hn : ∀ o, (b, o) ∉ bs) (hc : Chg (· = b) w w') : Cs base (PSq base g most) Q2 L L2 bs w0 w' :=
 h.set (PSq.good base g most) g2 (· = b) (fun k q => by subst q; exact ⟨hb, o, List.mem_cons_self⟩) hc (fun x q => ⟨List.mem_cons_of_mem _ q, fun e => hn x.2 (by rw [← show x.1 = b from e]; exact q)⟩)
theorem RowB.more {bs bs' : List (Nat × Obj)} {a : Option Addr} {ps : List Pr} (h : RowB bs a ps) (hs : ∀ x, x ∈ bs → x ∈ bs') : RowB bs' a ps := fun w hk => h w (fun k o q => hk k o (hs _ q))
theorem Gp.impE {α : Type} {m : Except Int α × List Tm} {v : α → Value} {P P' : List Tm → α → World → Prop} {F F' : List Tm → World → Prop} {e : Ending} {w : World} (h : Gp m v P F e w) (hp : ∀ L x w, m = (.ok x, L) → P L x w → P' L x w) (hf : ∀ L, F L w → F' L w) : Gp m v P' F' e w := by
 rcases h with ⟨x, L', h1, h2, h3⟩ | ⟨c, L', h1, h2, h3, h4⟩
 ·exact .inl ⟨x, L', h1, h2, hp _ _ _ h1 h3⟩
 ·exact .inr ⟨c, L', h1, h2, h3, hf _ h4⟩
theorem opCheck_yes {P : OpP} {s x : OpS} {most : Int} {L L' : List Tm} (h : opCheck P s most L = (.ok x, L')) : P.m.i 0 = 1 ∧ Ms.rightM P.m = true := by
 unfold opCheck at h
 by_cases hc : P.m.i 0 = 1 ∧ Ms.rightM P.m = true
 ·exact hc
 ·rw [if_neg hc] at h
  injection h with h1 h2
  cases h1
theorem opMixPub_peer {P : OpP} {s x : OpS} {most : Int} {L L' : List Tm} (h : opMixPub P s most L = (.ok x, L')) : x.peer = s.peer := by
 unfold opMixPub at h
 obtain ⟨a, L1, h1, h2⟩ := G.to_inv h
 injection h2 with h3 h4
 injection h3 with h5
 rw [← h5]
set_option maxHeartbeats 4000000 in
theorem Cs.hbegin1 (g2 : Good base Q2) (h : Cs base (PSq base g most) Q2 L L2 bs w0 w) {P : BgP} {f0 f2 f5 f6 f7 f8 f9 f10 f11 f12 e : Int} {m : Mg} {pn : Pnd} (hh : P.offer.size ≤ maxLen ∧ I64 P.p.dh ∧ I64 P.p.kem ∧ I64 P.d0 ∧ I64 P.d1 ∧ I64 P.d2 ∧ I64 P.a1 ∧ (I64 P.p.k0 ∧ I64 P.p.k1) ∧ (P.stamp : Int) ≤ 18446744073709551615 ∧ (Ms.putS P.stamp).size ≤ maxLen ∧ ∀ s, BgOk s → Ms.Ms.Wf (P.m s)) (hf : hBegin most L (P.a1, P.a2) P.p P.fr P.offer P.slot P.stamp P.d0 P.d1 P.d2 = (m, pn, e, L')) :
  Calls Tryz.prog 17 #[.pointer (some ⟨g, 0, none⟩), .agg #[.int .i64 P.a1, .int .i64 P.a2], .agg #[.int .i64 P.p.dh, .int .i64 P.p.kem, .int .i64 P.p.k0, .int .i64 P.p.k1], .agg #[.int .i64 f0, .int .u64 P.fr, .int .u64 f2, .string P.offer, .int .i64 P.slot, .int .i64 f5, .int .i64 f6, .int .i64 f7, .int .i64 f8, .int .i64 f9, .int .i64 f10, .int .u64 f11, .int .u64 f12], .int .u64 P.stamp, .agg #[.int .i64 P.d0, .int .i64 P.d1, .int .i64 P.d2]] w fun e' w' => e' = .returned (.tuple #[m.v, pn.v, .int .i64 e]) ∧ Cs base (PSq base g most) Q2 L' L2 bs w0 w' := by
 have HHY := Lib.hid hh
 have HF := Lib.hid hf
 clear hh hf
 have gP := PSq.good base g most
 have HQ := Lib.hid h.pair.base_le
 have HK : Hid (∀ k o, (k, o) ∈ bs → k < w.heap.size) := Lib.hid (fun k o q => h.pair.klt k ⟨o, q⟩)
 have HC := Lib.hid ((((((h.boxN gP g2 #[.int .i64 P.a1, .int .i64 P.a2] 33 (b := w.heap.size) rfl).boxN gP g2 #[.int .i64 P.p.dh, .int .i64 P.p.kem, .int .i64 P.p.k0, .int .i64 P.p.k1] 43 (b := w.heap.size + 1) (by simp)).boxN gP g2 #[.int .i64 f0, .int .u64 P.fr, .int .u64 f2, .string P.offer, .int .i64 P.slot, .int .i64 f5, .int .i64 f6, .int .i64 f7, .int .i64 f8, .int .i64 f9, .int .i64 f10, .int .u64 f11, .int .u64 f12] 25 (b := w.heap.size + 1 + 1) (by simp)).boxN gP g2 #[.int .i64 P.d0, .int .i64 P.d1, .int .i64 P.d2] 50 (b := w.heap.size + 1 + 1 + 1) (by simp)).boxN gP g2 #[.int .i64 0, .int .u64 0, .int .u64 0, .string ⟨#[]⟩, .int .i64 0, .int .i64 0, .int .i64 0, .int .i64 0, .int .i64 0, .int .i64 0, .int .i64 0, .int .u64 0, .int .u64 0] 25 (b := w.heap.size + 1 + 1 + 1 + 1) (by simp)).boxN gP g2 #[.int .i64 0, .int .i64 0, .int .i64 0, .int .u64 0, .int .i64 0, .int .i64 0, .string ⟨#[]⟩] 47 (b := w.heap.size + 1 + 1 + 1 + 1 + 1) (by simp))
 clear h
 go_enter Tryz.func17, Tryz.ntmps17
 go_upto_region 1 with fail
 generalize hwb : World.alloc _ _ = Wb at HC ⊢
 clear hwb
 generalize hq : w.heap.size = q at HC HK HQ ⊢
 clear hq
 have x0_0 := cell_of_row _ _ 0 _ _ _ (HC.out.kept (q) (bgO0 P) (List.mem_cons_of_mem _ (List.mem_cons_of_mem _ (List.mem_cons_of_mem _ (List.mem_cons_of_mem _ (List.mem_cons_of_mem _ List.mem_cons_self))))))
 have x0_1 := cell_of_row _ _ 1 _ _ _ (HC.out.kept (q) (bgO0 P) (List.mem_cons_of_mem _ (List.mem_cons_of_mem _ (List.mem_cons_of_mem _ (List.mem_cons_of_mem _ (List.mem_cons_of_mem _ List.mem_cons_self))))))
 simp at x0_0 x0_1
 have x1_0 := cell_of_row _ _ 0 _ _ _ (HC.out.kept (q + 1) (bgO1 P) (List.mem_cons_of_mem _ (List.mem_cons_of_mem _ (List.mem_cons_of_mem _ (List.mem_cons_of_mem _ List.mem_cons_self)))))
 have x1_1 := cell_of_row _ _ 1 _ _ _ (HC.out.kept (q + 1) (bgO1 P) (List.mem_cons_of_mem _ (List.mem_cons_of_mem _ (List.mem_cons_of_mem _ (List.mem_cons_of_mem _ List.mem_cons_self)))))
 have x1_2 := cell_of_row _ _ 2 _ _ _ (HC.out.kept (q + 1) (bgO1 P) (List.mem_cons_of_mem _ (List.mem_cons_of_mem _ (List.mem_cons_of_mem _ (List.mem_cons_of_mem _ List.mem_cons_self)))))
 have x1_3 := cell_of_row _ _ 3 _ _ _ (HC.out.kept (q + 1) (bgO1 P) (List.mem_cons_of_mem _ (List.mem_cons_of_mem _ (List.mem_cons_of_mem _ (List.mem_cons_of_mem _ List.mem_cons_self)))))
 simp at x1_0 x1_1 x1_2 x1_3
 have x3_0 := cell_of_row _ _ 0 _ _ _ (HC.out.kept (q + 1 + 1 + 1) (bgO3 P) (List.mem_cons_of_mem _ (List.mem_cons_of_mem _ List.mem_cons_self)))
 have x3_1 := cell_of_row _ _ 1 _ _ _ (HC.out.kept (q + 1 + 1 + 1) (bgO3 P) (List.mem_cons_of_mem _ (List.mem_cons_of_mem _ List.mem_cons_self)))
 have x3_2 := cell_of_row _ _ 2 _ _ _ (HC.out.kept (q + 1 + 1 + 1) (bgO3 P) (List.mem_cons_of_mem _ (List.mem_cons_of_mem _ List.mem_cons_self)))
 simp at x3_0 x3_1 x3_2
 refine wp_region_lit ?_
 refine wpList_step (v := ?v1) (w' := ?w1) rfl ?h1 ?k1
 case h1 => (go_simp; refine ⟨?_, ?_⟩) <;> with_reducible rfl
 try simp only [Act.put, p1, p2, p3]
 refine wpList_step (v := ?v2) (w' := ?w2) rfl ?h2 ?k2
 case h2 => (go_simp; refine ⟨?_, ?_⟩) <;> with_reducible rfl
 try simp only [Act.put, p1, p2, p3]
 refine wpList_step (v := ?v3) (w' := ?w3) rfl ?h3 ?k3
 case h3 => (go_simp; refine ⟨?_, ?_⟩) <;> with_reducible rfl
 try simp only [Act.put, p1, p2, p3]
 refine wpList_step (v := ?v4) (w' := ?w4) rfl ?h4 ?k4
 case h4 => (go_simp; refine ⟨?_, ?_⟩) <;> with_reducible rfl
 try simp only [Act.put, p1, p2, p3]
 refine wpList_step (v := ?v5) (w' := ?w5) rfl ?h5 ?k5
 case h5 => (go_simp; refine ⟨?_, ?_⟩) <;> with_reducible rfl
 try simp only [Act.put, p1, p2, p3]
 refine wpList_step (v := ?v6) (w' := ?w6) rfl ?h6 ?k6
 case h6 => (go_simp; refine ⟨?_, ?_⟩) <;> with_reducible rfl
 try simp only [Act.put, p1, p2, p3]
 refine wpList_step (v := ?v7) (w' := ?w7) rfl ?h7 ?k7
 case h7 => (go_simp; refine ⟨?_, ?_⟩) <;> with_reducible rfl
 try simp only [Act.put, p1, p2, p3]
 refine wpList_step (v := ?v8) (w' := ?w8) rfl ?h8 ?k8
 case h8 => (go_simp; refine ⟨?_, ?_⟩) <;> with_reducible rfl
 try simp only [Act.put, p1, p2, p3]
 refine wpList_store_mid rfl 129 (.tmp 15) (.tmp 23) rfl Wb.heap.size 0 #[.pointer (some ⟨g, 0, none⟩), .int .i64 0, .int .i64 0, .int .i64 0, .int .u64 0, .int .i64 P.a1, .int .i64 P.a2, .int .i64 P.p.dh, .int .i64 P.p.kem, .int .i64 P.p.k0, .int .i64 P.p.k1, .int .i64 0, .int .u64 0, .int .u64 0, .string ⟨#[]⟩, .int .i64 0, .int .i64 0, .int .i64 0, .int .i64 0, .int .i64 0, .int .i64 0, .int .i64 0, .int .u64 0, .int .u64 0, .int .u64 P.stamp, .int .i64 P.d0, .int .i64 P.d1, .int .i64 P.d2] rfl rfl (there_row (heap_alloc_new _ _) (by simp)) (by kernel_rfl) (by simp [Value.oneCell']) ?_
 try simp only [Act.put, p1, p2, p3]
 clear x0_0 x0_1 x1_0 x1_1 x1_2 x1_3 x3_0 x3_1 x3_2
 replace HC := Lib.hid (HC.out.talk2 g2 (t := 129) zeroY [.int .i64 P.a1, .int .i64 P.a2, .int .i64 P.p.dh, .int .i64 P.p.kem, .int .i64 P.p.k0, .int .i64 P.p.k1, .int .i64 0, .int .u64 0, .int .u64 0, .string ⟨#[]⟩, .int .i64 0, .int .i64 0, .int .i64 0, .int .i64 0, .int .i64 0, .int .i64 0, .int .i64 0, .int .u64 0, .int .u64 0, .int .u64 P.stamp, .int .i64 P.d0, .int .i64 P.d1, .int .i64 P.d2] (b := Wb.heap.size) rfl zeroY_wf (zs := #[.pointer none, .int .i64 0, .int .i64 0, .int .i64 0, .int .u64 0, .int .i64 0, .int .i64 0, .int .i64 0, .int .i64 0, .int .i64 0, .int .i64 0, .int .i64 0, .int .u64 0, .int .u64 0, .string ⟨#[]⟩, .int .i64 0, .int .i64 0, .int .i64 0, .int .i64 0, .int .i64 0, .int .i64 0, .int .i64 0, .int .u64 0, .int .u64 0, .int .u64 0, .int .i64 0, .int .i64 0, .int .i64 0]) (vs := [.pointer (some ⟨g, 0, none⟩), .int .i64 0, .int .i64 0, .int .i64 0, .int .u64 0, .int .i64 P.a1, .int .i64 P.a2, .int .i64 P.p.dh, .int .i64 P.p.kem, .int .i64 P.p.k0, .int .i64 P.p.k1, .int .i64 0, .int .u64 0, .int .u64 0, .string ⟨#[]⟩, .int .i64 0, .int .i64 0, .int .i64 0, .int .i64 0, .int .i64 0, .int .i64 0, .int .i64 0, .int .u64 0, .int .u64 0, .int .u64 P.stamp, .int .i64 P.d0, .int .i64 P.d1, .int .i64 P.d2]) rfl rfl)
 try simp only [List.toList_toArray]
 generalize hwc : World.setCells _ _ _ _ = Wc at HC ⊢
 clear hwc
 generalize hB : Wb.heap.size = B at HC ⊢
 clear hB
 have HT := HC
 clear HC
 go_upto_region 2 with fail
 have HTC := Lib.hid HT.out.cs
 have x2_1 := cell_of_row _ _ 1 _ _ _ (HTC.out.kept (q + 1 + 1) (bgO2 P f0 f2 f5 f6 f7 f8 f9 f10 f11 f12) (List.mem_cons_of_mem _ (List.mem_cons_of_mem _ (List.mem_cons_of_mem _ (List.mem_cons_of_mem _ List.mem_cons_self)))))
 have x2_3 := cell_of_row _ _ 3 _ _ _ (HTC.out.kept (q + 1 + 1) (bgO2 P f0 f2 f5 f6 f7 f8 f9 f10 f11 f12) (List.mem_cons_of_mem _ (List.mem_cons_of_mem _ (List.mem_cons_of_mem _ (List.mem_cons_of_mem _ List.mem_cons_self)))))
 have x2_4 := cell_of_row _ _ 4 _ _ _ (HTC.out.kept (q + 1 + 1) (bgO2 P f0 f2 f5 f6 f7 f8 f9 f10 f11 f12) (List.mem_cons_of_mem _ (List.mem_cons_of_mem _ (List.mem_cons_of_mem _ (List.mem_cons_of_mem _ List.mem_cons_self)))))
 simp at x2_1 x2_3 x2_4
 clear HTC
 refine wp_region_lit ?_
 refine wpList_step (v := ?v9) (w' := ?w9) rfl ?h9 ?k9
 case h9 => (go_simp; refine ⟨?_, ?_⟩) <;> with_reducible rfl
 try simp only [Act.put, p1, p2, p3]
 refine wpList_step (v := ?v10) (w' := ?w10) rfl ?h10 ?k10
 case h10 => (go_simp; refine ⟨?_, ?_⟩) <;> with_reducible rfl
 try simp only [Act.put, p1, p2, p3]
 refine wpList_step (v := ?v11) (w' := ?w11) rfl ?h11 ?k11
 case h11 => (go_simp; refine ⟨?_, ?_⟩) <;> with_reducible rfl
 try simp only [Act.put, p1, p2, p3]
 refine wpList_step (v := ?v12) (w' := ?w12) rfl ?h12 ?k12
 case h12 => (go_simp; refine ⟨?_, ?_⟩) <;> with_reducible rfl
 try simp only [Act.put, p1, p2, p3]
 refine wpList_step (v := ?v13) (w' := ?w13) rfl ?h13 ?k13
 case h13 => (go_simp; refine ⟨?_, ?_⟩) <;> with_reducible rfl
 try simp only [Act.put, p1, p2, p3]
 refine wpList_step (v := ?v14) (w' := ?w14) rfl ?h14 ?k14
 case h14 => (go_simp; refine ⟨?_, ?_⟩) <;> with_reducible rfl
 try simp only [Act.put, p1, p2, p3]
 refine wpList_step (v := ?v15) (w' := ?w15) rfl ?h15 ?k15
 case h15 => (go_simp; refine ⟨?_, ?_⟩) <;> with_reducible rfl
 try simp only [Act.put, p1, p2, p3]
 refine wpList_step (v := ?v16) (w' := ?w16) rfl ?h16 ?k16
 case h16 => (go_simp; refine ⟨?_, ?_⟩) <;> with_reducible rfl
 try simp only [Act.put, p1, p2, p3]
 refine wpList_store_mid rfl 25 (.tmp 31) (.tmp 30) rfl B 11 #[.int .i64 1, .int .u64 P.fr, .int .u64 0, .string P.offer, .int .i64 P.slot, .int .i64 0, .int .i64 0, .int .i64 0, .int .i64 0, .int .i64 0, .int .i64 0, .int .u64 0, .int .u64 0] rfl rfl (there_row HT.out.row (by simp [tkL])) (by kernel_rfl) (by simp [Value.oneCell']) ?_
 try simp only [Act.put, p1, p2, p3]
 clear x2_1 x2_3 x2_4
 replace HT := Lib.hid (HT.out.putN g2 [.int .i64 1, .int .u64 P.fr, .int .u64 0, .string P.offer, .int .i64 P.slot, .int .i64 0, .int .i64 0, .int .i64 0, .int .i64 0, .int .i64 0, .int .i64 0, .int .u64 0, .int .u64 0] 6)
 try simp only [List.toList_toArray]
 generalize hwd : World.setCells _ _ _ _ = Wd at HT ⊢
 clear hwd
 replace HT : Hid (Tk base g most Q2 L L2 ((q + 1 + 1 + 1 + 1 + 1, bgO5) :: (q + 1 + 1 + 1 + 1, bgO4) :: (q + 1 + 1 + 1, (bgO3 P)) :: (q + 1 + 1, (bgO2 P f0 f2 f5 f6 f7 f8 f9 f10 f11 f12)) :: (q + 1, (bgO1 P)) :: (q, (bgO0 P)) :: bs) B 129 zeroY (P.rest zeroBg) w0 Wd) := Lib.hid HT.out
 have hmf : ∀ (fn : Fn) (first cap : Array Value) (w : World), (Instr.makeFunc fn first cap).run Tryz.prog w = .ok (.func fn first cap) w := fun _ _ _ _ => rfl
 go_wp2_with fail
 clear hmf
 obtain ⟨hbx, hbn⟩ := HT.out.box g2 #[.func (.func 50) #[.pointer (some ⟨B, 0, none⟩)] #[], .func (.func 51) #[.pointer (some ⟨B, 0, none⟩)] #[], .func (.func 52) #[.pointer (some ⟨B, 0, none⟩)] #[], .func (.func 53) #[.pointer (some ⟨B, 0, none⟩)] #[], .func (.func 54) #[.pointer (some ⟨B, 0, none⟩)] #[], .func (.func 55) #[.pointer (some ⟨B, 0, none⟩)] #[], .func (.func 56) #[.pointer (some ⟨B, 0, none⟩)] #[], .func (.func 57) #[.pointer (some ⟨B, 0, none⟩)] #[], .func (.func 58) #[.pointer (some ⟨B, 0, none⟩)] #[], .func (.func 59) #[.pointer (some ⟨B, 0, none⟩)] #[], .func (.func 60) #[.pointer (some ⟨B, 0, none⟩)] #[]] 1 (b := Wd.heap.size) rfl
 replace HT := Lib.hid hbx
 have HRN := Lib.hid hbn
 clear hbx hbn
 generalize hwe : World.alloc _ _ = We at HT ⊢
 clear hwe
 generalize hR : Wd.heap.size = R at HT HRN ⊢
 clear hR
 obtain ⟨hbe, hbn⟩ := HT.out.box g2 #[.int .i64 0] 34 (b := We.heap.size) rfl
 have HEN := Lib.hid hbn
 refine (turn_G (n := 11) (f := fun i => ([50, 51, 52, 53, 54, 55, 56, 57, 58, 59, 60] : List Nat).getD i 0) (ks := bgAll P) (t := .pointer (some ⟨B, 0, none⟩)) (most := most) (St := (fun i L s u => Tk base g most Q2 L L2 ((We.heap.size, errO 0) :: (R, (.cells #[.func (.func 50) #[.pointer (some ⟨B, 0, none⟩)] #[], .func (.func 51) #[.pointer (some ⟨B, 0, none⟩)] #[], .func (.func 52) #[.pointer (some ⟨B, 0, none⟩)] #[], .func (.func 53) #[.pointer (some ⟨B, 0, none⟩)] #[], .func (.func 54) #[.pointer (some ⟨B, 0, none⟩)] #[], .func (.func 55) #[.pointer (some ⟨B, 0, none⟩)] #[], .func (.func 56) #[.pointer (some ⟨B, 0, none⟩)] #[], .func (.func 57) #[.pointer (some ⟨B, 0, none⟩)] #[], .func (.func 58) #[.pointer (some ⟨B, 0, none⟩)] #[], .func (.func 59) #[.pointer (some ⟨B, 0, none⟩)] #[], .func (.func 60) #[.pointer (some ⟨B, 0, none⟩)] #[]] 1 (0, 0) : Obj)) :: (q + 1 + 1 + 1 + 1 + 1, bgO5) :: (q + 1 + 1 + 1 + 1, bgO4) :: (q + 1 + 1 + 1, (bgO3 P)) :: (q + 1 + 1, (bgO2 P f0 f2 f5 f6 f7 f8 f9 f10 f11 f12)) :: (q + 1, (bgO1 P)) :: (q, (bgO0 P)) :: bs) B 129 s.y (P.rest s) w0 u ∧ BgOk s ∧ (1 ≤ i → P.slot = 0 ∨ P.slot = 1))) (Fl := (fun L u => Cs base (PSq base g most) Q2 L L2 ((We.heap.size, errO 0) :: (R, (.cells #[.func (.func 50) #[.pointer (some ⟨B, 0, none⟩)] #[], .func (.func 51) #[.pointer (some ⟨B, 0, none⟩)] #[], .func (.func 52) #[.pointer (some ⟨B, 0, none⟩)] #[], .func (.func 53) #[.pointer (some ⟨B, 0, none⟩)] #[], .func (.func 54) #[.pointer (some ⟨B, 0, none⟩)] #[], .func (.func 55) #[.pointer (some ⟨B, 0, none⟩)] #[], .func (.func 56) #[.pointer (some ⟨B, 0, none⟩)] #[], .func (.func 57) #[.pointer (some ⟨B, 0, none⟩)] #[], .func (.func 58) #[.pointer (some ⟨B, 0, none⟩)] #[], .func (.func 59) #[.pointer (some ⟨B, 0, none⟩)] #[], .func (.func 60) #[.pointer (some ⟨B, 0, none⟩)] #[]] 1 (0, 0) : Obj)) :: (q + 1 + 1 + 1 + 1 + 1, bgO5) :: (q + 1 + 1 + 1 + 1, bgO4) :: (q + 1 + 1 + 1, (bgO3 P)) :: (q + 1 + 1, (bgO2 P f0 f2 f5 f6 f7 f8 f9 f10 f11 f12)) :: (q + 1, (bgO1 P)) :: (q, (bgO0 P)) :: bs) w0 u)) (s0 := zeroBg) (L0 := L) rfl ?he ?hs R 0 11 We (by omega) ?h0 ?hrow ?hfr ?hbd).mono ?fin
 case he =>
  intro i hi args u
  match i, hi with
  | 0, _ => exact enters_of Tryz.func50 (by kernel_rfl) rfl args u
  | 1, _ => exact enters_of Tryz.func51 (by kernel_rfl) rfl args u
  | 2, _ => exact enters_of Tryz.func52 (by kernel_rfl) rfl args u
  | 3, _ => exact enters_of Tryz.func53 (by kernel_rfl) rfl args u
  | 4, _ => exact enters_of Tryz.func54 (by kernel_rfl) rfl args u
  | 5, _ => exact enters_of Tryz.func55 (by kernel_rfl) rfl args u
  | 6, _ => exact enters_of Tryz.func56 (by kernel_rfl) rfl args u
  | 7, _ => exact enters_of Tryz.func57 (by kernel_rfl) rfl args u
  | 8, _ => exact enters_of Tryz.func58 (by kernel_rfl) rfl args u
  | 9, _ => exact enters_of Tryz.func59 (by kernel_rfl) rfl args u
  | 10, _ => exact enters_of Tryz.func60 (by kernel_rfl) rfl args u
  | n + 11, h => omega
 case hs =>
  intro i k hk L s u hst
  match i, hk with
  | 0, hk =>
   obtain rfl : bgSlot P = k := Option.some.inj hk
   exact (bg_checkSlot g2 hst.1 hst.2.1).mono (fun e w' h => h.impE (fun L x w hE hx => ⟨hx.1, hx.2.1, fun _ => hx.2.2⟩) (fun L hx => hx))
  | 1, hk =>
   obtain rfl : bgFirst P = k := Option.some.inj hk
   exact (bg_first g2 hst.1 hst.2.1 HHY.out.1 (hst.2.2 (by omega)) HHY.out.2.1 HHY.out.2.2.1).mono (fun e w' h => h.impE (fun L x w hE hx => ⟨hx.1, hx.2, fun _ => hst.2.2 (by omega)⟩) (fun L hx => hx))
  | 2, hk =>
   obtain rfl : bgE P = k := Option.some.inj hk
   exact (bg_sayE g2 hst.1 hst.2.1 HHY.out.2.2.2.1).mono (fun e w' h => h.impE (fun L x w hE hx => ⟨hx.1, hx.2, fun _ => hst.2.2 (by omega)⟩) (fun L hx => hx))
  | 3, hk =>
   obtain rfl : bgEK P = k := Option.some.inj hk
   exact (bg_sayEK g2 hst.1 hst.2.1 HHY.out.2.2.2.2.1).mono (fun e w' h => h.impE (fun L x w hE hx => ⟨hx.1, hx.2, fun _ => hst.2.2 (by omega)⟩) (fun L hx => hx))
  | 4, hk =>
   obtain rfl : bgMixE P = k := Option.some.inj hk
   exact (bg_mixE g2 hst.1 hst.2.1 HHY.out.2.2.2.1).mono (fun e w' h => h.impE (fun L x w hE hx => ⟨hx.1, hx.2, fun _ => hst.2.2 (by omega)⟩) (fun L hx => hx))
  | 5, hk =>
   obtain rfl : bgWrap P = k := Option.some.inj hk
   exact (bg_wrapSecret g2 hst.1 hst.2.1 HHY.out.2.2.2.2.2.1).mono (fun e w' h => h.impE (fun L x w hE hx => ⟨hx.1, hx.2, fun _ => hst.2.2 (by omega)⟩) (fun L hx => hx))
  | 6, hk =>
   obtain rfl : bgSealMe P = k := Option.some.inj hk
   exact (bg_sealMe g2 hst.1 hst.2.1 HHY.out.2.2.2.2.2.2.1).mono (fun e w' h => h.impE (fun L x w hE hx => ⟨hx.1, hx.2, fun _ => hst.2.2 (by omega)⟩) (fun L hx => hx))
  | 7, hk =>
   obtain rfl : bgMixMe P = k := Option.some.inj hk
   exact (bg_mixMe g2 hst.1 hst.2.1 HHY.out.2.2.2.2.2.2.1).mono (fun e w' h => h.impE (fun L x w hE hx => ⟨hx.1, hx.2, fun _ => hst.2.2 (by omega)⟩) (fun L hx => hx))
  | 8, hk =>
   obtain rfl : bgPsk P = k := Option.some.inj hk
   exact (bg_mixPsk g2 hst.1 hst.2.1 (hst.2.2 (by omega)) HHY.out.2.2.2.2.2.2.2.1).mono (fun e w' h => h.impE (fun L x w hE hx => ⟨hx.1, hx.2, fun _ => hst.2.2 (by omega)⟩) (fun L hx => hx))
  | 9, hk =>
   obtain rfl : bgStamp P = k := Option.some.inj hk
   exact (bg_sealStamp g2 hst.1 hst.2.1 HHY.out.2.2.2.2.2.2.2.2.1 HHY.out.2.2.2.2.2.2.2.2.2.1).mono (fun e w' h => h.impE (fun L x w hE hx => ⟨hx.1, hx.2, fun _ => hst.2.2 (by omega)⟩) (fun L hx => hx))
  | 10, hk =>
   obtain rfl : bgCheck P = k := Option.some.inj hk
   exact (bg_check g2 hst.1 hst.2.1 (HHY.out.2.2.2.2.2.2.2.2.2.2 _ hst.2.1)).mono (fun e w' h => h.impE (fun L x w hE hx => ⟨hx.1, hx.2, fun _ => hst.2.2 (by omega)⟩) (fun L hx => hx))
  | n + 11, hk => simp [bgAll] at hk
 case h0 => exact ⟨hbe, ⟨k0, k0, k0, k0, k0⟩, fun h => absurd h (by decide)⟩
 case hrow =>
  intro i L s u hst hi
  match i, hi with
  | 0, _ => exact (hst.1.boxc (List.mem_cons_of_mem _ List.mem_cons_self) 0 rfl).1
  | 1, _ => exact (hst.1.boxc (List.mem_cons_of_mem _ List.mem_cons_self) 1 rfl).1
  | 2, _ => exact (hst.1.boxc (List.mem_cons_of_mem _ List.mem_cons_self) 2 rfl).1
  | 3, _ => exact (hst.1.boxc (List.mem_cons_of_mem _ List.mem_cons_self) 3 rfl).1
  | 4, _ => exact (hst.1.boxc (List.mem_cons_of_mem _ List.mem_cons_self) 4 rfl).1
  | 5, _ => exact (hst.1.boxc (List.mem_cons_of_mem _ List.mem_cons_self) 5 rfl).1
  | 6, _ => exact (hst.1.boxc (List.mem_cons_of_mem _ List.mem_cons_self) 6 rfl).1
  | 7, _ => exact (hst.1.boxc (List.mem_cons_of_mem _ List.mem_cons_self) 7 rfl).1
  | 8, _ => exact (hst.1.boxc (List.mem_cons_of_mem _ List.mem_cons_self) 8 rfl).1
  | 9, _ => exact (hst.1.boxc (List.mem_cons_of_mem _ List.mem_cons_self) 9 rfl).1
  | 10, _ => exact (hst.1.boxc (List.mem_cons_of_mem _ List.mem_cons_self) 10 rfl).1
  | n + 11, h => omega
 case hfr => intro i L s u hst; exact hst.1.boxc List.mem_cons_self 0 rfl
 case hbd => intro L u hc; exact ⟨by simp [World.cell?, hc.kept _ _ List.mem_cons_self], frz_of_row 0 (hc.kept _ _ List.mem_cons_self)⟩
 case fin =>
  clear HT hbe
  rintro e' w' (⟨s, L3, u, hsq, rfl, ⟨hT, hI⟩, rfl⟩ | ⟨c, L3, u, hsq, hc, rfl, hC, rfl⟩)
  ·have HT := Lib.hid ((hT.unbox g2 HEN.out (chg_one u We.heap.size 0 (.int .i64 0))).unbox0)
   have HSQ := Lib.hid hsq
   clear hsq hT hI
   generalize hwf : World.setCell _ _ _ = Wf at HT ⊢
   clear hwf HEN HRN
   have hw := HF.out
   rw [bg_all P, HSQ.out] at hw
   injection hw with e1 hw
   injection hw with e2 hw
   injection hw with e3 e4
   subst e1 e2 e3 e4
   clear HF HSQ
   go_upto_region 6 with fail
   replace HT := Lib.hid (HT.out.drew g2)
   refine wp_region_held_drew (S := (fun W => W.cell? ⟨B, 11, none⟩ = some (.int .i64 1) ∧ W.cell? ⟨B, 12, none⟩ = some (.int .u64 P.fr) ∧ W.cell? ⟨B, 13, none⟩ = some (.int .u64 0) ∧ W.cell? ⟨B, 14, none⟩ = some (.string P.offer) ∧ W.cell? ⟨B, 15, none⟩ = some (.int .i64 P.slot) ∧ W.cell? ⟨B, 16, none⟩ = some (.int .i64 0) ∧ W.cell? ⟨B, 17, none⟩ = some (.int .i64 s.e) ∧ W.cell? ⟨B, 18, none⟩ = some (.int .i64 s.ek) ∧ W.cell? ⟨B, 19, none⟩ = some (.int .i64 s.box) ∧ W.cell? ⟨B, 20, none⟩ = some (.int .i64 s.c1) ∧ W.cell? ⟨B, 21, none⟩ = some (.int .i64 s.c2) ∧ W.cell? ⟨B, 22, none⟩ = some (.int .u64 0) ∧ W.cell? ⟨B, 23, none⟩ = some (.int .u64 0) ∧ W.cell? ⟨B, 1, none⟩ = some (.int .i64 s.y.CK) ∧ W.cell? ⟨B, 2, none⟩ = some (.int .i64 s.y.K) ∧ W.cell? ⟨B, 3, none⟩ = some (.int .i64 s.y.H) ∧ W.cell? ⟨B, 4, none⟩ = some (.int .u64 s.y.N) ∧ W.cell? ⟨q + 1 + 1 + 1, 0, none⟩ = some (.int .i64 P.d0) ∧ W.cell? ⟨q + 1 + 1 + 1, 1, none⟩ = some (.int .i64 P.d1) ∧ W.cell? ⟨q + 1 + 1, 3, none⟩ = some (.string P.offer))) (by kernel_rfl) (⟨HT.out.at 6 rfl, HT.out.at 7 rfl, HT.out.at 8 rfl, HT.out.at 9 rfl, HT.out.at 10 rfl, HT.out.at 11 rfl, HT.out.at 12 rfl, HT.out.at 13 rfl, HT.out.at 14 rfl, HT.out.at 15 rfl, HT.out.at 16 rfl, HT.out.at 17 rfl, HT.out.at 18 rfl, HT.out.c1, HT.out.c2, HT.out.c3, HT.out.c4, (HT.out.boxc (List.mem_cons_of_mem _ (List.mem_cons_of_mem _ List.mem_cons_self)) 0 rfl).1, (HT.out.boxc (List.mem_cons_of_mem _ (List.mem_cons_of_mem _ List.mem_cons_self)) 1 rfl).1, (HT.out.boxc (List.mem_cons_of_mem _ (List.mem_cons_of_mem _ (List.mem_cons_of_mem _ List.mem_cons_self))) 3 rfl).1⟩) (fun hHeld => ?_)
   refine tk 0 (h := ?_)
   refine tk 1 (hy := fun W hSw => by ((obtain ⟨z0, z1, z2, z3, z4, z5, z6, z7, z8, z9, z10, z11, z12, z13, z14, z15, z16, z17, z18, z19⟩ := hSw; go_simp) <;> with_reducible rfl)) (h := ?_)
   refine tk 2 (h := ?_)
   refine tk 3 (h := ?_)
   refine tk 4 (hy := fun W hSw => by ((obtain ⟨z0, z1, z2, z3, z4, z5, z6, z7, z8, z9, z10, z11, z12, z13, z14, z15, z16, z17, z18, z19⟩ := hSw; go_simp) <;> with_reducible rfl)) (h := ?_)
   refine tk 5 (h := ?_)
   refine tk 6 (hy := fun W hSw => by ((obtain ⟨z0, z1, z2, z3, z4, z5, z6, z7, z8, z9, z10, z11, z12, z13, z14, z15, z16, z17, z18, z19⟩ := hSw; go_simp) <;> with_reducible rfl)) (h := ?_)
   refine tk 7 (h := ?_)
   refine tk 8 (hy := fun W hSw => by ((obtain ⟨z0, z1, z2, z3, z4, z5, z6, z7, z8, z9, z10, z11, z12, z13, z14, z15, z16, z17, z18, z19⟩ := hSw; go_simp) <;> with_reducible rfl)) (h := ?_)
   refine tk 9 (h := ?_)
   refine tk 10 (hy := fun W hSw => by ((obtain ⟨z0, z1, z2, z3, z4, z5, z6, z7, z8, z9, z10, z11, z12, z13, z14, z15, z16, z17, z18, z19⟩ := hSw; go_simp) <;> with_reducible rfl)) (h := ?_)
   refine tk 11 (h := ?_)
   refine rd 12 (h := fun K' hK => ?_)
   rw [if_pos (by rfl)]
   have hrow := HT.out.cs.kept (q + 1 + 1 + 1 + 1) bgO4 (List.mem_cons_of_mem _ (List.mem_cons_of_mem _ List.mem_cons_self))
   refine wp_store_mid 25 (.tmp 12) (.tmp 51) ?so30 (q + 1 + 1 + 1 + 1) 0 #[.int .i64 1, .int .u64 P.fr, .int .u64 0, .string P.offer, .int .i64 P.slot, .int .i64 0, .int .i64 s.e, .int .i64 s.ek, .int .i64 s.box, .int .i64 s.c1, .int .i64 s.c2, .int .u64 0, .int .u64 0] ?sx30 ?sy30 ?st30 ?si30 ?s130 ?sk30
   case so30 => rfl
   case sx30 => rfl
   case sy30 => first | with_reducible rfl | (go_simp; done)
   case st30 => exact there_row hrow (by simp)
   case si30 => kernel_rfl
   case s130 => simp [Value.oneCell']
   have hsub : ∀ x, x ∈ ((q + 1 + 1 + 1 + 1 + 1, bgO5) :: (q + 1 + 1 + 1, (bgO3 P)) :: (q + 1 + 1, (bgO2 P f0 f2 f5 f6 f7 f8 f9 f10 f11 f12)) :: (q + 1, (bgO1 P)) :: (q, (bgO0 P)) :: bs) → x ∈ ((q + 1 + 1 + 1 + 1 + 1, bgO5) :: (q + 1 + 1 + 1 + 1, bgO4) :: (q + 1 + 1 + 1, (bgO3 P)) :: (q + 1 + 1, (bgO2 P f0 f2 f5 f6 f7 f8 f9 f10 f11 f12)) :: (q + 1, (bgO1 P)) :: (q, (bgO0 P)) :: bs) ∧ x.1 ≠ q + 1 + 1 + 1 + 1 := by
    intro x hx
    simp only [List.mem_cons] at hx ⊢
    rcases hx with rfl | rfl | rfl | rfl | rfl | hx
    ·exact ⟨by simp, by dsimp only; omega⟩
    ·exact ⟨by simp, by dsimp only; omega⟩
    ·exact ⟨by simp, by dsimp only; omega⟩
    ·exact ⟨by simp, by dsimp only; omega⟩
    ·exact ⟨by simp, by dsimp only; omega⟩
    ·exact ⟨by simp [hx], fun q => by have := HK.out x.1 x.2 hx; omega⟩
   have HR4 := Lib.hid (row_all [.int .i64 1, .int .u64 P.fr, .int .u64 0, .string P.offer, .int .i64 P.slot, .int .i64 0, .int .i64 s.e, .int .i64 s.ek, .int .i64 s.box, .int .i64 s.c1, .int .i64 s.c2, .int .u64 0, .int .u64 0] hrow rfl)
   replace HT := Lib.hid (HT.out.writes g2 (List.mem_cons_of_mem _ List.mem_cons_self) (by have := HQ.out; omega) (chg_setCells (q + 1 + 1 + 1 + 1) [.int .i64 1, .int .u64 P.fr, .int .u64 0, .string P.offer, .int .i64 P.slot, .int .i64 0, .int .i64 s.e, .int .i64 s.ek, .int .i64 s.box, .int .i64 s.c1, .int .i64 s.c2, .int .u64 0, .int .u64 0] 0 _) hsub)
   clear hrow hsub
   try simp only [List.toList_toArray]
   generalize hwg : World.setCells _ _ _ _ = Wg0 at HT HR4 ⊢
   clear hwg
   refine hK.out _ _ (⟨HT.out.at 6 rfl, HT.out.at 7 rfl, HT.out.at 8 rfl, HT.out.at 9 rfl, HT.out.at 10 rfl, HT.out.at 11 rfl, HT.out.at 12 rfl, HT.out.at 13 rfl, HT.out.at 14 rfl, HT.out.at 15 rfl, HT.out.at 16 rfl, HT.out.at 17 rfl, HT.out.at 18 rfl, HT.out.c1, HT.out.c2, HT.out.c3, HT.out.c4, (HT.out.boxc (List.mem_cons_of_mem _ List.mem_cons_self) 0 rfl).1, (HT.out.boxc (List.mem_cons_of_mem _ List.mem_cons_self) 1 rfl).1, (HT.out.boxc (List.mem_cons_of_mem _ (List.mem_cons_of_mem _ List.mem_cons_self)) 3 rfl).1⟩) (fun hHeld => ?_)
   clear hK K'
   try simp only [Act.put, p1, p2, p3]
   refine rd 13 (h := fun K' hK => ?_)
   rw [if_pos (by rfl)]
   have hrow := HT.out.cs.kept (q + 1 + 1 + 1 + 1 + 1) bgO5 (List.mem_cons_of_mem _ List.mem_cons_self)
   refine wp_store_mid 47 (.tmp 13) (.tmp 61) ?so31 (q + 1 + 1 + 1 + 1 + 1) 0 #[.int .i64 s.y.CK, .int .i64 s.y.K, .int .i64 s.y.H, .int .u64 s.y.N, .int .i64 P.d0, .int .i64 P.d1, .string P.offer] ?sx31 ?sy31 ?st31 ?si31 ?s131 ?sk31
   case so31 => rfl
   case sx31 => rfl
   case sy31 => first | with_reducible rfl | (go_simp; done)
   case st31 => exact there_row hrow (by simp)
   case si31 => kernel_rfl
   case s131 => simp [Value.oneCell']
   have hsub : ∀ x, x ∈ ((q + 1 + 1 + 1, (bgO3 P)) :: (q + 1 + 1, (bgO2 P f0 f2 f5 f6 f7 f8 f9 f10 f11 f12)) :: (q + 1, (bgO1 P)) :: (q, (bgO0 P)) :: bs) → x ∈ ((q + 1 + 1 + 1 + 1 + 1, bgO5) :: (q + 1 + 1 + 1, (bgO3 P)) :: (q + 1 + 1, (bgO2 P f0 f2 f5 f6 f7 f8 f9 f10 f11 f12)) :: (q + 1, (bgO1 P)) :: (q, (bgO0 P)) :: bs) ∧ x.1 ≠ q + 1 + 1 + 1 + 1 + 1 := by
    intro x hx
    simp only [List.mem_cons] at hx ⊢
    rcases hx with rfl | rfl | rfl | rfl | hx
    ·exact ⟨by simp, by dsimp only; omega⟩
    ·exact ⟨by simp, by dsimp only; omega⟩
    ·exact ⟨by simp, by dsimp only; omega⟩
    ·exact ⟨by simp, by dsimp only; omega⟩
    ·exact ⟨by simp [hx], fun q => by have := HK.out x.1 x.2 hx; omega⟩
   have HR5 := Lib.hid (row_all [.int .i64 s.y.CK, .int .i64 s.y.K, .int .i64 s.y.H, .int .u64 s.y.N, .int .i64 P.d0, .int .i64 P.d1, .string P.offer] hrow rfl)
   replace HR4 := Lib.hid (((chg_setCells (q + 1 + 1 + 1 + 1 + 1) [.int .i64 s.y.CK, .int .i64 s.y.K, .int .i64 s.y.H, .int .u64 s.y.N, .int .i64 P.d0, .int .i64 P.d1, .string P.offer] 0 _).block _ (lt_some HR4.out) (by simp)).trans HR4.out)
   replace HT := Lib.hid (HT.out.writes g2 List.mem_cons_self (by have := HQ.out; omega) (chg_setCells (q + 1 + 1 + 1 + 1 + 1) [.int .i64 s.y.CK, .int .i64 s.y.K, .int .i64 s.y.H, .int .u64 s.y.N, .int .i64 P.d0, .int .i64 P.d1, .string P.offer] 0 _) hsub)
   clear hrow hsub
   try simp only [List.toList_toArray]
   generalize hwg : World.setCells _ _ _ _ = Wg1 at HT HR4 HR5 ⊢
   clear hwg
   refine hK.out _ _ (⟨HT.out.at 6 rfl, HT.out.at 7 rfl, HT.out.at 8 rfl, HT.out.at 9 rfl, HT.out.at 10 rfl, HT.out.at 11 rfl, HT.out.at 12 rfl, HT.out.at 13 rfl, HT.out.at 14 rfl, HT.out.at 15 rfl, HT.out.at 16 rfl, HT.out.at 17 rfl, HT.out.at 18 rfl, HT.out.c1, HT.out.c2, HT.out.c3, HT.out.c4, (HT.out.boxc List.mem_cons_self 0 rfl).1, (HT.out.boxc List.mem_cons_self 1 rfl).1, (HT.out.boxc (List.mem_cons_of_mem _ List.mem_cons_self) 3 rfl).1⟩) (fun hHeld => ?_)
   clear hK K'
   try simp only [Act.put, p1, p2, p3]
   refine tk 14 (h := ?_)
   refine wpAnyH_done (by kernel_rfl) ?_ _
   go_wp2_with fail
   have r4_0 := cell_of_row _ _ 0 _ _ _ HR4.out
   have r4_1 := cell_of_row _ _ 1 _ _ _ HR4.out
   have r4_2 := cell_of_row _ _ 2 _ _ _ HR4.out
   have r4_3 := cell_of_row _ _ 3 _ _ _ HR4.out
   have r4_4 := cell_of_row _ _ 4 _ _ _ HR4.out
   have r4_5 := cell_of_row _ _ 5 _ _ _ HR4.out
   have r4_6 := cell_of_row _ _ 6 _ _ _ HR4.out
   have r4_7 := cell_of_row _ _ 7 _ _ _ HR4.out
   have r4_8 := cell_of_row _ _ 8 _ _ _ HR4.out
   have r4_9 := cell_of_row _ _ 9 _ _ _ HR4.out
   have r4_10 := cell_of_row _ _ 10 _ _ _ HR4.out
   have r4_11 := cell_of_row _ _ 11 _ _ _ HR4.out
   have r4_12 := cell_of_row _ _ 12 _ _ _ HR4.out
   simp at r4_0 r4_1 r4_2 r4_3 r4_4 r4_5 r4_6 r4_7 r4_8 r4_9 r4_10 r4_11 r4_12
   have r5_0 := cell_of_row _ _ 0 _ _ _ HR5.out
   have r5_1 := cell_of_row _ _ 1 _ _ _ HR5.out
   have r5_2 := cell_of_row _ _ 2 _ _ _ HR5.out
   have r5_3 := cell_of_row _ _ 3 _ _ _ HR5.out
   have r5_4 := cell_of_row _ _ 4 _ _ _ HR5.out
   have r5_5 := cell_of_row _ _ 5 _ _ _ HR5.out
   have r5_6 := cell_of_row _ _ 6 _ _ _ HR5.out
   simp at r5_0 r5_1 r5_2 r5_3 r5_4 r5_5 r5_6
   exact bodyPost_ret (v := .tuple #[.agg #[.int .i64 1, .int .u64 P.fr, .int .u64 0, .string P.offer, .int .i64 P.slot, .int .i64 0, .int .i64 s.e, .int .i64 s.ek, .int .i64 s.box, .int .i64 s.c1, .int .i64 s.c2, .int .u64 0, .int .u64 0], .agg #[.int .i64 s.y.CK, .int .i64 s.y.K, .int .i64 s.y.H, .int .u64 s.y.N, .int .i64 P.d0, .int .i64 P.d1, .string P.offer], .int .i64 0]) (by simp [results, Tryz.results17, go_sem, r4_0, r4_1, r4_2, r4_3, r4_4, r4_5, r4_6, r4_7, r4_8, r4_9, r4_10, r4_11, r4_12 ,r5_0, r5_1, r5_2, r5_3, r5_4, r5_5, r5_6]) rfl ⟨rfl, HT.out.fall.less (fun x q => List.mem_cons_of_mem _ (List.mem_cons_of_mem _ (List.mem_cons_of_mem _ (List.mem_cons_of_mem _ (q)))))⟩
  ·have HC := Lib.hid (((hC.drop g2 HEN.out.2.1 HEN.out.2.2 (chg_one u We.heap.size 0 (.int .i64 c)))).less (fun x q => List.mem_cons_of_mem _ q))
   have HSQ := Lib.hid hsq
   have hne : (c != 0) = true := by simpa using hc
   clear hsq hC hc
   generalize hwf : World.setCell _ _ _ = Wf at HC ⊢
   clear hwf HEN HRN
   have hw := HF.out
   rw [bg_all P, HSQ.out] at hw
   injection hw with e1 hw
   injection hw with e2 hw
   injection hw with e3 e4
   subst e1 e2 e3 e4
   clear HF HSQ
   go_upto_region 5 with fail
   refine wp_region_lit ?_
   refine wpList_step (v := ?v32) (w' := ?w32) rfl ?h32 ?k32
   case h32 => (go_simp; refine ⟨?_, ?_⟩) <;> with_reducible rfl
   try simp only [Act.put, p1, p2, p3]
   refine wpList_step (v := ?v33) (w' := ?w33) rfl ?h33 ?k33
   case h33 => (go_simp; refine ⟨?_, ?_⟩) <;> with_reducible rfl
   try simp only [Act.put, p1, p2, p3]
   refine wpList_step (v := ?v34) (w' := ?w34) rfl ?h34 ?k34
   case h34 => (go_simp; refine ⟨?_, ?_⟩) <;> with_reducible rfl
   try simp only [Act.put, p1, p2, p3]
   have hrow := HC.out.kept (q + 1 + 1 + 1 + 1) bgO4 (List.mem_cons_of_mem _ List.mem_cons_self)
   refine wpList_store_mid rfl 25 (.tmp 12) (.tmp 47) rfl (q + 1 + 1 + 1 + 1) 0 #[.int .i64 0, .int .u64 0, .int .u64 0, .string ⟨#[]⟩, .int .i64 0, .int .i64 0, .int .i64 0, .int .i64 0, .int .i64 0, .int .i64 0, .int .i64 0, .int .u64 0, .int .u64 0] rfl rfl (there_row hrow (by simp)) (by kernel_rfl) (by simp [Value.oneCell']) ?_
   try simp only [Act.put, p1, p2, p3]
   try simp only [List.toList_toArray]
   have hsub : ∀ x, x ∈ ((q + 1 + 1 + 1 + 1 + 1, bgO5) :: (q + 1 + 1 + 1, (bgO3 P)) :: (q + 1 + 1, (bgO2 P f0 f2 f5 f6 f7 f8 f9 f10 f11 f12)) :: (q + 1, (bgO1 P)) :: (q, (bgO0 P)) :: bs) → x ∈ ((q + 1 + 1 + 1 + 1 + 1, bgO5) :: (q + 1 + 1 + 1 + 1, bgO4) :: (q + 1 + 1 + 1, (bgO3 P)) :: (q + 1 + 1, (bgO2 P f0 f2 f5 f6 f7 f8 f9 f10 f11 f12)) :: (q + 1, (bgO1 P)) :: (q, (bgO0 P)) :: bs) ∧ x.1 ≠ q + 1 + 1 + 1 + 1 := by
    intro x hx
    simp only [List.mem_cons] at hx ⊢
    rcases hx with rfl | rfl | rfl | rfl | rfl | hx
    ·exact ⟨by simp, by dsimp only; omega⟩
    ·exact ⟨by simp, by dsimp only; omega⟩
    ·exact ⟨by simp, by dsimp only; omega⟩
    ·exact ⟨by simp, by dsimp only; omega⟩
    ·exact ⟨by simp, by dsimp only; omega⟩
    ·exact ⟨by simp [hx], fun q => by have := HK.out x.1 x.2 hx; omega⟩
   have HR4 := Lib.hid (row_all [.int .i64 0, .int .u64 0, .int .u64 0, .string ⟨#[]⟩, .int .i64 0, .int .i64 0, .int .i64 0, .int .i64 0, .int .i64 0, .int .i64 0, .int .i64 0, .int .u64 0, .int .u64 0] hrow rfl)
   replace HC := Lib.hid (HC.out.writes g2 (List.mem_cons_of_mem _ List.mem_cons_self) (by have := HQ.out; omega) (chg_setCells (q + 1 + 1 + 1 + 1) [.int .i64 0, .int .u64 0, .int .u64 0, .string ⟨#[]⟩, .int .i64 0, .int .i64 0, .int .i64 0, .int .i64 0, .int .i64 0, .int .i64 0, .int .i64 0, .int .u64 0, .int .u64 0] 0 _) hsub)
   clear hrow hsub
   generalize hwg : World.setCells _ _ _ _ = Wf1 at HC HR4 ⊢
   clear hwg
   have hrow := HC.out.kept (q + 1 + 1 + 1 + 1 + 1) bgO5 List.mem_cons_self
   refine wpList_store_mid rfl 47 (.tmp 13) (.tmp 48) rfl (q + 1 + 1 + 1 + 1 + 1) 0 #[.int .i64 0, .int .i64 0, .int .i64 0, .int .u64 0, .int .i64 0, .int .i64 0, .string ⟨#[]⟩] rfl rfl (there_row hrow (by simp)) (by kernel_rfl) (by simp [Value.oneCell']) ?_
   try simp only [Act.put, p1, p2, p3]
   try simp only [List.toList_toArray]
   have hsub : ∀ x, x ∈ ((q + 1 + 1 + 1, (bgO3 P)) :: (q + 1 + 1, (bgO2 P f0 f2 f5 f6 f7 f8 f9 f10 f11 f12)) :: (q + 1, (bgO1 P)) :: (q, (bgO0 P)) :: bs) → x ∈ ((q + 1 + 1 + 1 + 1 + 1, bgO5) :: (q + 1 + 1 + 1, (bgO3 P)) :: (q + 1 + 1, (bgO2 P f0 f2 f5 f6 f7 f8 f9 f10 f11 f12)) :: (q + 1, (bgO1 P)) :: (q, (bgO0 P)) :: bs) ∧ x.1 ≠ q + 1 + 1 + 1 + 1 + 1 := by
    intro x hx
    simp only [List.mem_cons] at hx ⊢
    rcases hx with rfl | rfl | rfl | rfl | hx
    ·exact ⟨by simp, by dsimp only; omega⟩
    ·exact ⟨by simp, by dsimp only; omega⟩
    ·exact ⟨by simp, by dsimp only; omega⟩
    ·exact ⟨by simp, by dsimp only; omega⟩
    ·exact ⟨by simp [hx], fun q => by have := HK.out x.1 x.2 hx; omega⟩
   have HR5 := Lib.hid (row_all [.int .i64 0, .int .i64 0, .int .i64 0, .int .u64 0, .int .i64 0, .int .i64 0, .string ⟨#[]⟩] hrow rfl)
   replace HR4 := Lib.hid (((chg_setCells (q + 1 + 1 + 1 + 1 + 1) [.int .i64 0, .int .i64 0, .int .i64 0, .int .u64 0, .int .i64 0, .int .i64 0, .string ⟨#[]⟩] 0 _).block _ (lt_some HR4.out) (by simp)).trans HR4.out)
   replace HC := Lib.hid (HC.out.writes g2 List.mem_cons_self (by have := HQ.out; omega) (chg_setCells (q + 1 + 1 + 1 + 1 + 1) [.int .i64 0, .int .i64 0, .int .i64 0, .int .u64 0, .int .i64 0, .int .i64 0, .string ⟨#[]⟩] 0 _) hsub)
   clear hrow hsub
   generalize hwg : World.setCells _ _ _ _ = Wf2 at HC HR4 HR5 ⊢
   clear hwg
   refine wpList_step (v := ?v35) (w' := ?w35) rfl ?h35 ?k35
   case h35 => (go_simp; refine ⟨?_, ?_⟩) <;> with_reducible rfl
   try simp only [Act.put, p1, p2, p3]
   go_wp2_with fail
   have r4_0 := cell_of_row _ _ 0 _ _ _ HR4.out
   have r4_1 := cell_of_row _ _ 1 _ _ _ HR4.out
   have r4_2 := cell_of_row _ _ 2 _ _ _ HR4.out
   have r4_3 := cell_of_row _ _ 3 _ _ _ HR4.out
   have r4_4 := cell_of_row _ _ 4 _ _ _ HR4.out
   have r4_5 := cell_of_row _ _ 5 _ _ _ HR4.out
   have r4_6 := cell_of_row _ _ 6 _ _ _ HR4.out
   have r4_7 := cell_of_row _ _ 7 _ _ _ HR4.out
   have r4_8 := cell_of_row _ _ 8 _ _ _ HR4.out
   have r4_9 := cell_of_row _ _ 9 _ _ _ HR4.out
   have r4_10 := cell_of_row _ _ 10 _ _ _ HR4.out
   have r4_11 := cell_of_row _ _ 11 _ _ _ HR4.out
   have r4_12 := cell_of_row _ _ 12 _ _ _ HR4.out
   simp at r4_0 r4_1 r4_2 r4_3 r4_4 r4_5 r4_6 r4_7 r4_8 r4_9 r4_10 r4_11 r4_12
   have r5_0 := cell_of_row _ _ 0 _ _ _ HR5.out
   have r5_1 := cell_of_row _ _ 1 _ _ _ HR5.out
   have r5_2 := cell_of_row _ _ 2 _ _ _ HR5.out
   have r5_3 := cell_of_row _ _ 3 _ _ _ HR5.out
   have r5_4 := cell_of_row _ _ 4 _ _ _ HR5.out
   have r5_5 := cell_of_row _ _ 5 _ _ _ HR5.out
   have r5_6 := cell_of_row _ _ 6 _ _ _ HR5.out
   simp at r5_0 r5_1 r5_2 r5_3 r5_4 r5_5 r5_6
   exact bodyPost_ret (v := .tuple #[.agg #[.int .i64 0, .int .u64 0, .int .u64 0, .string ⟨#[]⟩, .int .i64 0, .int .i64 0, .int .i64 0, .int .i64 0, .int .i64 0, .int .i64 0, .int .i64 0, .int .u64 0, .int .u64 0], .agg #[.int .i64 0, .int .i64 0, .int .i64 0, .int .u64 0, .int .i64 0, .int .i64 0, .string ⟨#[]⟩], .int .i64 c]) (by simp [results, Tryz.results17, go_sem, r4_0, r4_1, r4_2, r4_3, r4_4, r4_5, r4_6, r4_7, r4_8, r4_9, r4_10, r4_11, r4_12 ,r5_0, r5_1, r5_2, r5_3, r5_4, r5_5, r5_6]) rfl ⟨rfl, HC.out.less (fun x q => List.mem_cons_of_mem _ (List.mem_cons_of_mem _ (List.mem_cons_of_mem _ (List.mem_cons_of_mem _ (q)))))⟩
end
end Go.Proofs.YtgeonppckeiceaaGreatDoor
