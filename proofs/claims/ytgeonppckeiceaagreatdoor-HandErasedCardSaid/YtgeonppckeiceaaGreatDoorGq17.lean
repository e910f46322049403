/- The program's Seal and Open, whole. -/
/- Stores beside each other, and blocks that stay; a talk in a box of a call's own: what its steps tell, or how they fall. -/
/- What a talk's own steps tell, or how they fall (by tools/stage17/talk.py). -/
import Derived.Test.YtgeonppckeiceaaGreatDoorGq16
import Derived.Test.YtgeonppckeiceaaGreatDoorGq13
import Derived.Test.YtgeonppckeiceaaGreatDoorGq06
import Derived.WalkKit
import Derived.Test.YtgeonppckeiceaaGreatDoorGq08
import Derived.Deep.RegionHeld3
namespace Go.Proofs.YtgeonppckeiceaaGreatDoor
open Go.RowKit
set_option linter.unusedVariables false
set_option linter.unusedSimpArgs false
set_option maxRecDepth 20000
section
variable {base g : Nat} {most : Int} {Q2 : (Nat → Prop) → List Tm → World → Prop} {L L2 : List Tm} {K : Nat → Prop} {w0 w : World}
set_option maxHeartbeats 2000000 in
theorem Pair.ysealP {L' : List Tm} {y y' : Sy} {x c e : Int} (g2 : Good base Q2) (h : Pair base (PSq base g most) Q2 L L2 K w0 w) (hy : y.Wf) (hx : I64 x) (hf : sealF L most y x = (y', c, e, L')) :
  Calls Tryz.prog 172 #[y.v, .pointer (some ⟨g, 0, none⟩), .int .i64 x] w (Three y'.v (.int .i64 c) (.int .i64 e) (Pair base (PSq base g most) Q2 L' L2 K w0) K w) := by
 have gS := PSq.good base g most
 have HBL := Lib.hid h.base_le
 have HKl := Lib.hid h.klt
 have HF := Lib.hid (fun (K : Nat → Prop) (A : Nat) (w : World) (h : Pair base (PSq base g most) Q2 L L2 K w0 w) (hA : K A) (hr : w.heap[A]? = some (.cells #[.func (.func 206) #[] #[], .func (.func 207) #[] #[], .func (.func 208) #[] #[], .func (.func 209) #[] #[]] 279 (0, 0))) => h.turnSeal g2 hA hr hy hx hf)
 obtain ⟨yc, yk, yh, yn⟩ := y
 obtain ⟨zc, zk, zh, zn⟩ := y'
 obtain ⟨hb, hr0, hr1, hk⟩ := h.box2 gS g2 #[.int .i64 yc, .int .i64 yk, .int .i64 yh, .int .u64 yn] #[.int .i64 0, .int .i64 0, .int .i64 0, .int .u64 0] 45 45
 obtain ⟨hb2, hr2, hk2⟩ := hb.box1 gS g2 #[.func (.func 206) #[] #[], .func (.func 207) #[] #[], .func (.func 208) #[] #[], .func (.func 209) #[] #[]] 279
 simp at hr2
 have HR1 := Lib.hid ((hk2 _ (.inr (.inr rfl))).trans hr1)
 have HK := Lib.hid (show ∀ k, K k → _ from fun k q => (hk2 k (.inl q)).trans (hk k q))
 have HT := Lib.hid (HF.out _ (w.heap.size + 1 + 1) _ hb2 (.inr (by simp)) (by have := hr2; simpa using hr2))
 clear h hy hx hf hb hr0 hr1 hk hb2 hr2 hk2 HF
 unfold Sy.v
 go_enter Tryz.func172, Tryz.ntmps172
 go_wp2_with fail
 refine (HT.out).mono ?_
 rintro e' w1 ⟨v0, v5, rfl, hp, hk⟩
 have hr := (hk _ (.inl (.inr (.inr rfl)))).trans HR1.out
 have z0 := cell_of_row w1 _ 0 _ _ _ hr
 have z1 := cell_of_row w1 _ 1 _ _ _ hr
 have z2 := cell_of_row w1 _ 2 _ _ _ hr
 have z3 := cell_of_row w1 _ 3 _ _ _ hr
 simp at z0 z1 z2 z3
 have fz0 := frz_of_row 0 hr
 have fz1 := frz_of_row 1 hr
 have fz2 := frz_of_row 2 hr
 have fz3 := frz_of_row 3 hr
 have hlt := lt_of_block hr
 have HP := Lib.hid hp
 have HK1 := Lib.hid hk
 have HRr := Lib.hid hr
 clear hp hk HT hr
 go_wp2
 go_region
 go_wp2
 generalize hW : World.drew (World.alloc _ _) = W
 have hbW : Below (Go.Proofs.YtgeonppckeiceaaGreatDoor.set4 w1 (w.heap.size + 1) 0 (.int .i64 zc) (.int .i64 zk) (.int .i64 zh) (.int .u64 zn)).heap.size (Go.Proofs.YtgeonppckeiceaaGreatDoor.set4 w1 (w.heap.size + 1) 0 (.int .i64 zc) (.int .i64 zk) (.int .i64 zh) (.int .u64 zn)) W := by
  rw [← hW]
  exact ((Below.refl _ _).alloc (Nat.le_refl _) _).drew
 have hsz : (Go.Proofs.YtgeonppckeiceaaGreatDoor.set4 w1 (w.heap.size + 1) 0 (.int .i64 zc) (.int .i64 zk) (.int .i64 zh) (.int .u64 zn)).heap.size = w1.heap.size := by simp [Go.Proofs.YtgeonppckeiceaaGreatDoor.set4]
 have hrow := (hbW.block (w.heap.size + 1) (by rw [hsz]; exact hlt)).trans (row_set4 (.int .i64 zc) (.int .i64 zk) (.int .i64 zh) (.int .u64 zn) HRr.out)
 have q0 := cell_of_row W _ 0 _ _ _ hrow
 have q1 := cell_of_row W _ 1 _ _ _ hrow
 have q2 := cell_of_row W _ 2 _ _ _ hrow
 have q3 := cell_of_row W _ 3 _ _ _ hrow
 simp at q0 q1 q2 q3
 clear hW
 exact bodyPost_ret (v := .tuple #[.agg #[.int .i64 zc, .int .i64 zk, .int .i64 zh, .int .u64 zn], .int .i64 c, .int .i64 e]) (by simp [results, Tryz.results172, go_sem, q0, q1, q2, q3]) rfl
  ⟨rfl, ((HP.out.set4 gS g2 (.inl (.inr (.inr rfl))) (by have := HBL.out; omega) 0 _ _ _ _).below gS g2 hbW).less (fun k q => .inl (.inl q)),
   fun k q => (hbW.block k (by have := HKl.out k q; omega)).trans ((set4_other w1 _ 0 k _ _ _ _ (by have := HKl.out k q; omega)).trans ((HK1.out k (.inl (.inl q))).trans (HK.out k q)))⟩
set_option maxHeartbeats 2000000 in
theorem Pair.yopenP {L' : List Tm} {y y' : Sy} {x c e : Int} (g2 : Good base Q2) (h : Pair base (PSq base g most) Q2 L L2 K w0 w) (hy : y.Wf) (hx : I64 x) (hf : unsealF L most y x = (y', c, e, L')) :
  Calls Tryz.prog 182 #[y.v, .pointer (some ⟨g, 0, none⟩), .int .i64 x] w (Three y'.v (.int .i64 c) (.int .i64 e) (Pair base (PSq base g most) Q2 L' L2 K w0) K w) := by
 have gS := PSq.good base g most
 have HBL := Lib.hid h.base_le
 have HKl := Lib.hid h.klt
 have HF := Lib.hid (fun (K : Nat → Prop) (A : Nat) (w : World) (h : Pair base (PSq base g most) Q2 L L2 K w0 w) (hA : K A) (hr : w.heap[A]? = some (.cells #[.func (.func 206) #[] #[], .func (.func 212) #[] #[], .func (.func 208) #[] #[], .func (.func 209) #[] #[]] 279 (0, 0))) => h.turnOpen g2 hA hr hy hx hf)
 obtain ⟨yc, yk, yh, yn⟩ := y
 obtain ⟨zc, zk, zh, zn⟩ := y'
 obtain ⟨hb, hr0, hr1, hk⟩ := h.box2 gS g2 #[.int .i64 yc, .int .i64 yk, .int .i64 yh, .int .u64 yn] #[.int .i64 0, .int .i64 0, .int .i64 0, .int .u64 0] 45 45
 obtain ⟨hb2, hr2, hk2⟩ := hb.box1 gS g2 #[.func (.func 206) #[] #[], .func (.func 212) #[] #[], .func (.func 208) #[] #[], .func (.func 209) #[] #[]] 279
 simp at hr2
 have HR1 := Lib.hid ((hk2 _ (.inr (.inr rfl))).trans hr1)
 have HK := Lib.hid (show ∀ k, K k → _ from fun k q => (hk2 k (.inl q)).trans (hk k q))
 have HT := Lib.hid (HF.out _ (w.heap.size + 1 + 1) _ hb2 (.inr (by simp)) (by have := hr2; simpa using hr2))
 clear h hy hx hf hb hr0 hr1 hk hb2 hr2 hk2 HF
 unfold Sy.v
 go_enter Tryz.func182, Tryz.ntmps182
 go_wp2_with fail
 refine (HT.out).mono ?_
 rintro e' w1 ⟨v0, v5, rfl, hp, hk⟩
 have hr := (hk _ (.inl (.inr (.inr rfl)))).trans HR1.out
 have z0 := cell_of_row w1 _ 0 _ _ _ hr
 have z1 := cell_of_row w1 _ 1 _ _ _ hr
 have z2 := cell_of_row w1 _ 2 _ _ _ hr
 have z3 := cell_of_row w1 _ 3 _ _ _ hr
 simp at z0 z1 z2 z3
 have fz0 := frz_of_row 0 hr
 have fz1 := frz_of_row 1 hr
 have fz2 := frz_of_row 2 hr
 have fz3 := frz_of_row 3 hr
 have hlt := lt_of_block hr
 have HP := Lib.hid hp
 have HK1 := Lib.hid hk
 have HRr := Lib.hid hr
 clear hp hk HT hr
 go_wp2
 go_region
 go_wp2
 generalize hW : World.drew (World.alloc _ _) = W
 have hbW : Below (Go.Proofs.YtgeonppckeiceaaGreatDoor.set4 w1 (w.heap.size + 1) 0 (.int .i64 zc) (.int .i64 zk) (.int .i64 zh) (.int .u64 zn)).heap.size (Go.Proofs.YtgeonppckeiceaaGreatDoor.set4 w1 (w.heap.size + 1) 0 (.int .i64 zc) (.int .i64 zk) (.int .i64 zh) (.int .u64 zn)) W := by
  rw [← hW]
  exact ((Below.refl _ _).alloc (Nat.le_refl _) _).drew
 have hsz : (Go.Proofs.YtgeonppckeiceaaGreatDoor.set4 w1 (w.heap.size + 1) 0 (.int .i64 zc) (.int .i64 zk) (.int .i64 zh) (.int .u64 zn)).heap.size = w1.heap.size := by simp [Go.Proofs.YtgeonppckeiceaaGreatDoor.set4]
 have hrow := (hbW.block (w.heap.size + 1) (by rw [hsz]; exact hlt)).trans (row_set4 (.int .i64 zc) (.int .i64 zk) (.int .i64 zh) (.int .u64 zn) HRr.out)
 have q0 := cell_of_row W _ 0 _ _ _ hrow
 have q1 := cell_of_row W _ 1 _ _ _ hrow
 have q2 := cell_of_row W _ 2 _ _ _ hrow
 have q3 := cell_of_row W _ 3 _ _ _ hrow
 simp at q0 q1 q2 q3
 clear hW
 exact bodyPost_ret (v := .tuple #[.agg #[.int .i64 zc, .int .i64 zk, .int .i64 zh, .int .u64 zn], .int .i64 c, .int .i64 e]) (by simp [results, Tryz.results182, go_sem, q0, q1, q2, q3]) rfl
  ⟨rfl, ((HP.out.set4 gS g2 (.inl (.inr (.inr rfl))) (by have := HBL.out; omega) 0 _ _ _ _).below gS g2 hbW).less (fun k q => .inl (.inl q)),
   fun k q => (hbW.block k (by have := HKl.out k q; omega)).trans ((set4_other w1 _ 0 k _ _ _ _ (by have := HKl.out k q; omega)).trans ((HK1.out k (.inl (.inl q))).trans (HK.out k q)))⟩
end
theorem below_alloc (w : World) (o : Obj) : Below w.heap.size w (w.alloc o) := (Below.refl _ _).alloc (Nat.le_refl _) _
structure Cs (base : Nat) (Q1 Q2 : (Nat → Prop) → List Tm → World → Prop) (L1 L2 : List Tm) (bs : List (Nat × Obj)) (w0 w : World) : Prop where
 pair : Pair base Q1 Q2 L1 L2 (fun k => ∃ o, (k, o) ∈ bs) w0 w
 kept : ∀ k o, (k, o) ∈ bs → w.heap[k]? = some o
 sound : Sound L1
section
variable {base : Nat} {Q1 Q2 : (Nat → Prop) → List Tm → World → Prop} {L1 L2 L1' L2' : List Tm} {bs : List (Nat × Obj)} {w0 w w' : World}
theorem Cs.step (h : Cs base Q1 Q2 L1 L2 bs w0 w) (p : Pair base Q1 Q2 L1' L2' (fun k => ∃ o, (k, o) ∈ bs) w0 w') (hk : ∀ k, (∃ o, (k, o) ∈ bs) → w'.heap[k]? = w.heap[k]?) (hs : Sound L1') : Cs base Q1 Q2 L1' L2' bs w0 w' :=
 ⟨p, fun k o q => (hk k ⟨o, q⟩).trans (h.kept k o q), hs⟩
theorem Cs.below (g1 : Good base Q1) (g2 : Good base Q2) (h : Cs base Q1 Q2 L1 L2 bs w0 w) (hb : Below w.heap.size w w') : Cs base Q1 Q2 L1 L2 bs w0 w' :=
 ⟨h.pair.below g1 g2 hb, fun k o q => (hb.block k (h.pair.klt k ⟨o, q⟩)).trans (h.kept k o q), h.sound⟩
theorem Cs.low (h : Cs base Q1 Q2 L1 L2 bs w0 w) : Below w0.heap.size w0 w := h.pair.belowW
theorem Cs.less (h : Cs base Q1 Q2 L1 L2 bs w0 w) {bs' : List (Nat × Obj)} (hs : ∀ x, x ∈ bs' → x ∈ bs) : Cs base Q1 Q2 L1 L2 bs' w0 w :=
 ⟨h.pair.less (fun k ⟨o, q⟩ => ⟨o, hs _ q⟩), fun k o q => h.kept k o (hs _ q), h.sound⟩
theorem Cs.box (g1 : Good base Q1) (g2 : Good base Q2) (h : Cs base Q1 Q2 L1 L2 bs w0 w) (cs : Array Value) (t : TypeId) : Cs base Q1 Q2 L1 L2 ((w.heap.size, (.cells cs t (0, 0) : Obj)) :: bs) w0 (w.alloc (.cells cs t : Obj)) := by
 refine ⟨(h.pair.box g1 g2 (.cells cs t : Obj)).less (fun k ⟨o, q⟩ => ?_), fun k o q => ?_, h.sound⟩
 ·rcases List.mem_cons.1 q with e | e
  ·injection e with e1 e2
   exact .inr e1
  ·exact .inl ⟨o, e⟩
 ·rcases List.mem_cons.1 q with e | e
  ·injection e with e1 e2
   subst e1 e2
   exact heap_alloc_new w _
  ·exact ((below_alloc w _).block k (h.pair.klt k ⟨o, e⟩)).trans (h.kept k o e)
end
def RowP (w : World) (a : Option Addr) (ps : List Pr) : Prop := ∃ b off, ∀ j, j < ps.length → a = some ⟨b, off, none⟩ ∧ w.cell? ⟨b, off + j * 4, none⟩ = some (.int .i64 (ps.getD j zeroPr).dh) ∧ w.cell? ⟨b, off + j * 4 + 1, none⟩ = some (.int .i64 (ps.getD j zeroPr).kem) ∧ w.cell? ⟨b, off + j * 4 + 2, none⟩ = some (.int .i64 (ps.getD j zeroPr).k0) ∧ w.cell? ⟨b, off + j * 4 + 3, none⟩ = some (.int .i64 (ps.getD j zeroPr).k1)
def Pr.Wf (p : Pr) : Prop := I64 p.dh ∧ I64 p.kem ∧ I64 p.k0 ∧ I64 p.k1
theorem Cs.set {base : Nat} {Q1 Q2 : (Nat → Prop) → List Tm → World → Prop} {L1 L2 : List Tm} {bs bs' : List (Nat × Obj)} {w0 w w' : World} (g1 : Good base Q1) (g2 : Good base Q2) (h : Cs base Q1 Q2 L1 L2 bs w0 w) (S : Nat → Prop)
  (hS : ∀ k, S k → base ≤ k ∧ ∃ o, (k, o) ∈ bs) (hc : Chg S w w') (hb : ∀ x, x ∈ bs' → x ∈ bs ∧ ¬ S x.1) : Cs base Q1 Q2 L1 L2 bs' w0 w' := by
 obtain ⟨⟨F1, F2, h1, h2, h3, h4, h5, h6⟩, hk, hsd⟩ := h
 refine ⟨⟨F1, F2, g1.frame h1 hc (fun k q s => ?_), g2.frame h2 hc (fun k q s => ?_), h3, fun k ⟨o, q⟩ => ?_, h5, ?_⟩, fun k o q => ?_, hsd⟩
 ·exact (h4 k (hS k s).2).1 q
 ·exact (h4 k (hS k s).2).2.1 q
 ·have := h4 k ⟨o, (hb _ q).1⟩
  exact ⟨this.1, this.2.1, Nat.lt_of_lt_of_le this.2.2 hc.size⟩
 ·refine ⟨hc.os.trans h6.os, hc.tape.trans h6.tape, hc.output.trans h6.output, Nat.le_trans h6.size hc.size, fun k hlt => ?_⟩
  have hl : k < w.heap.size := Nat.lt_of_lt_of_le (by omega) h6.size
  exact (hc.block k hl (fun s => by have := (hS k s).1; omega)).trans (h6.block k hlt)
 ·have hl := (h4 k ⟨o, (hb _ q).1⟩).2.2
  exact (hc.block k hl (hb _ q).2).trans (hk k o (hb _ q).1)
theorem chg_set (w : World) (S : Nat → Prop) (b i : Nat) (v : Value) (hb : S b) : Chg S w (w.setCell ⟨b, i, none⟩ v) :=
 ⟨rfl, rfl, rfl, by simp, fun k hk hs => heap_setCell_other _ _ _ _ (by intro q; exact hs (by rw [show k = b from q]; exact hb))⟩
theorem lt_some {w : World} {k : Nat} {o : Obj} (h : w.heap[k]? = some o) : k < w.heap.size := by
 by_cases q : k < w.heap.size
 ·exact q
 ·rw [Array.getElem?_eq_none (by omega)] at h; simp at h
def RowB (bs : List (Nat × Obj)) (a : Option Addr) (ps : List Pr) : Prop := ∀ w : World, (∀ k o, (k, o) ∈ bs → w.heap[k]? = some o) → RowP w a ps
def Fell (c : Int) : Ending := .panicked [{ v := .iface 34 (.int .i64 c), recovered := false }]
theorem G.to_of {α β : Type} (x : α) (k : α → G β) : (G.of x).to k = k x := rfl
theorem G.to_assoc {α β γ : Type} (m : G α) (k : α → G β) (f : β → G γ) : (m.to k).to f = m.to fun x => (k x).to f := by
 funext most L
 unfold G.to
 cases m most L with
 | mk r L' => cases r <;> rfl
section
variable {L L' : List Tm} {most e : Int}
theorem putG_no {t : Tm} {a : Int} (h : putF L most t = (a, e, L')) (he : e ≠ 0) : putG t most L = (.error e, L') := by unfold putG; rw [h]; exact congrArg (fun r => (r, L')) (if_neg he)
theorem putG_i64 {t : Tm} {a : Int} (hl : (L.length : Int) ≤ most) (hm : most ≤ 1048576) (h : putG t most L = (.ok a, L')) : I64 a := by
 unfold putG at h
 injection h with h1 h2
 split at h1
 ·injection h1 with h1
  subst h1
  exact name_i64 hl hm (t := t) (a := (putF L most t).1) (e := (putF L most t).2.1) (L' := (putF L most t).2.2) rfl
 ·cases h1
theorem shareG_ok {x p a : Int} (h : agreeF L most x p = (a, 0, L')) : shareG x p most L = (.ok a, L') := by unfold shareG; rw [h]; rfl
theorem shareG_no {x p a : Int} (h : agreeF L most x p = (a, e, L')) (he : e ≠ 0) : shareG x p most L = (.error e, L') := by unfold shareG; rw [h]; exact congrArg (fun r => (r, L')) (if_neg he)
theorem wrapG_ok {p d a b : Int} (h : wrapF L most p d = (a, b, 0, L')) : wrapG p d most L = (.ok (a, b), L') := by unfold wrapG; rw [h]; rfl
theorem wrapG_no {p d a b : Int} (h : wrapF L most p d = (a, b, e, L')) (he : e ≠ 0) : wrapG p d most L = (.error e, L') := by unfold wrapG; rw [h]; exact congrArg (fun r => (r, L')) (if_neg he)
theorem unwrapG_ok {x c a : Int} (h : kopenF L most x c = (a, 0, L')) : unwrapG x c most L = (.ok a, L') := by unfold unwrapG; rw [h]; rfl
theorem unwrapG_no {x c a : Int} (h : kopenF L most x c = (a, e, L')) (he : e ≠ 0) : unwrapG x c most L = (.error e, L') := by unfold unwrapG; rw [h]; exact congrArg (fun r => (r, L')) (if_neg he)
theorem startG_no {S : ByteArray} {z : Sy} (h : beginF L most S = (z, e, L')) (he : e ≠ 0) : startG S most L = (.error e, L') := by unfold startG; rw [h]; exact congrArg (fun r => (r, L')) (if_neg he)
theorem agree_i64 {x p a : Int} (hl : (L.length : Int) ≤ most) (hm : most ≤ 1048576) (h : agreeF L most x p = (a, e, L')) : I64 a := by
 unfold agreeF at h
 split at h
 ·exact name_i64 hl hm h
 ·injection h with h1 h2
  rw [← h1]
  exact k0
theorem kopen_i64 {x c a : Int} (hl : (L.length : Int) ≤ most) (hm : most ≤ 1048576) (h : kopenF L most x c = (a, e, L')) : I64 a := by
 unfold kopenF at h
 split at h
 ·split at h
  ·exact name_i64 hl hm h
  ·injection h with h1 h2
   rw [← h1]
   exact k0
 ·injection h with h1 h2
  rw [← h1]
  exact k0
theorem wrap_i64 {p d a b : Int} (hl : (L.length : Int) ≤ most) (hm : most ≤ 1048576) (hf : Fit L) (h : wrapF L most p d = (a, b, e, L')) : I64 a ∧ I64 b := by
 by_cases hc : (getT L p).2 = true ∧ (getT L d).2 = true ∧ (getT L p).1.K = 5
 ·unfold wrapF at h
  rw [if_pos hc] at h
  simp only [] at h
  obtain ⟨a1, e1, L1, p1⟩ : ∃ a e L1, putF L most (boxT (getT L p).1.A d) = (a, e, L1) := ⟨_, _, _, rfl⟩
  have f1 := fit_putF (t := boxT (getT L p).1.A d) hf hl
  rw [p1] at h f1
  simp only [] at h f1
  obtain ⟨a2, e2, L2', p2⟩ : ∃ a e L2, putF L1 most (kemT (getT L p).1.A d) = (a, e, L2) := ⟨_, _, _, rfl⟩
  rw [p2] at h
  simp only [] at h
  split at h
  ·injection h with h1 h2
   injection h2 with h2 h3
   rw [← h1, ← h2]
   exact ⟨k0, k0⟩
  ·split at h
   ·injection h with h1 h2
    injection h2 with h2 h3
    rw [← h1, ← h2]
    exact ⟨k0, k0⟩
   ·injection h with h1 h2
    injection h2 with h2 h3
    rw [← h1, ← h2]
    exact ⟨name_i64 hl hm p1, name_i64 f1.2 hm p2⟩
 ·rw [wrap_no hc] at h
  injection h with h1 h2
  injection h2 with h2 h3
  rw [← h1, ← h2]
  exact ⟨k0, k0⟩
end
def Gp {α : Type} (m : Except Int α × List Tm) (v : α → Value) (P : List Tm → α → World → Prop) (F : List Tm → World → Prop) (e : Ending) (w' : World) : Prop :=
 (∃ x L', m = (.ok x, L') ∧ e = .returned (v x) ∧ P L' x w') ∨ (∃ c L', m = (.error c, L') ∧ c ≠ 0 ∧ e = Fell c ∧ F L' w')
def tkL (g : Nat) (y : Sy) (rest : List Value) : List Value := .pointer (some ⟨g, 0, none⟩) :: .int .i64 y.CK :: .int .i64 y.K :: .int .i64 y.H :: .int .u64 y.N :: rest
def tkO (g : Nat) (y : Sy) (rest : List Value) (T : TypeId) : Obj := .cells (tkL g y rest).toArray T (0, 0)
structure Tk (base g : Nat) (most : Int) (Q2 : (Nat → Prop) → List Tm → World → Prop) (L L2 : List Tm) (bs : List (Nat × Obj)) (B : Nat) (T : TypeId) (y : Sy) (rest : List Value) (w0 w : World) : Prop where
 cs : Cs base (PSq base g most) Q2 L L2 ((B, tkO g y rest T) :: bs) w0 w
 lo : base ≤ B
 new : ∀ o, (B, o) ∉ bs
 wf : y.Wf
section
variable {base g B : Nat} {most : Int} {Q2 : (Nat → Prop) → List Tm → World → Prop} {L L' L2 : List Tm} {bs : List (Nat × Obj)} {T : TypeId} {y y' : Sy} {rest : List Value} {w0 w w' : World}
theorem Tk.row (h : Tk base g most Q2 L L2 bs B T y rest w0 w) : w.heap[B]? = some (tkO g y rest T) := h.cs.kept _ _ (by simp)
theorem Tk.lt (h : Tk base g most Q2 L L2 bs B T y rest w0 w) : B < w.heap.size := lt_some h.row
theorem Tk.fz (h : Tk base g most Q2 L L2 bs B T y rest w0 w) (i : Nat) : w.frozen? ⟨B, i, none⟩ = false := frz_of_row i h.row
theorem Tk.c0 (h : Tk base g most Q2 L L2 bs B T y rest w0 w) : w.cell? ⟨B, 0, none⟩ = some (.pointer (some ⟨g, 0, none⟩)) := by simp [World.cell?, h.row, tkO, tkL]
theorem Tk.c1 (h : Tk base g most Q2 L L2 bs B T y rest w0 w) : w.cell? ⟨B, 1, none⟩ = some (.int .i64 y.CK) := by simp [World.cell?, h.row, tkO, tkL]
theorem Tk.c2 (h : Tk base g most Q2 L L2 bs B T y rest w0 w) : w.cell? ⟨B, 2, none⟩ = some (.int .i64 y.K) := by simp [World.cell?, h.row, tkO, tkL]
theorem Tk.c3 (h : Tk base g most Q2 L L2 bs B T y rest w0 w) : w.cell? ⟨B, 3, none⟩ = some (.int .i64 y.H) := by simp [World.cell?, h.row, tkO, tkL]
theorem Tk.c4 (h : Tk base g most Q2 L L2 bs B T y rest w0 w) : w.cell? ⟨B, 4, none⟩ = some (.int .u64 y.N) := by simp [World.cell?, h.row, tkO, tkL]
theorem Tk.at (h : Tk base g most Q2 L L2 bs B T y rest w0 w) (j : Nat) {v : Value} (hv : rest[j]? = some v) : w.cell? ⟨B, j + 5, none⟩ = some v := by
 simp [World.cell?, h.row, tkO, tkL, hv]
theorem Tk.facts (h : Tk base g most Q2 L L2 bs B T y rest w0 w) : Fit L ∧ (L.length : Int) ≤ most ∧ most ≤ 1048576 := h.cs.pair.facts
theorem Tk.below (g2 : Good base Q2) (h : Tk base g most Q2 L L2 bs B T y rest w0 w) (hb : Below w.heap.size w w') : Tk base g most Q2 L L2 bs B T y rest w0 w' :=
 ⟨h.cs.below (PSq.good base g most) g2 hb, h.lo, h.new, h.wf⟩
theorem Tk.drew (g2 : Good base Q2) (h : Tk base g most Q2 L L2 bs B T y rest w0 w) : Tk base g most Q2 L L2 bs B T y rest w0 w.drew := h.below g2 (Below.refl _ _).drew
theorem Tk.step (h : Tk base g most Q2 L L2 bs B T y rest w0 w) (hp : Pair base (PSq base g most) Q2 L' L2 (fun k => ∃ o, (k, o) ∈ ((B, tkO g y rest T) :: bs)) w0 w') (hk : ∀ k, (∃ o, (k, o) ∈ ((B, tkO g y rest T) :: bs)) → w'.heap[k]? = w.heap[k]?) (hs : Sound L') :
  Tk base g most Q2 L' L2 bs B T y rest w0 w' := ⟨h.cs.step hp hk hs, h.lo, h.new, h.wf⟩
theorem Tk.fall (h : Tk base g most Q2 L L2 bs B T y rest w0 w) : Cs base (PSq base g most) Q2 L L2 bs w0 w := h.cs.less (fun x q => List.mem_cons_of_mem _ q)
theorem Tk.turn (g2 : Good base Q2) (h : Tk base g most Q2 L L2 bs B T y rest w0 w) {rest' : List Value} (hy : y'.Wf) (hc : Chg (· = B) w w') (hr : w'.heap[B]? = some (tkO g y' rest' T)) : Tk base g most Q2 L L2 bs B T y' rest' w0 w' := by
 have hl := h.lt
 have c := h.cs
 obtain ⟨⟨F1, F2, h1, h2, h3, h4, h5, h6⟩, hk, hsd⟩ := c
 have hB := h4 B ⟨_, List.mem_cons_self⟩
 refine ⟨⟨⟨F1, F2, (PSq.good base g most).frame h1 hc (fun k q s => ?_), g2.frame h2 hc (fun k q s => ?_), h3, fun k ⟨o, q⟩ => ?_, h5, ?_⟩, fun k o q => ?_, hsd⟩, h.lo, h.new, hy⟩
 ·subst s; exact hB.1 q
 ·subst s; exact hB.2.1 q
 ·rcases List.mem_cons.1 q with e | e
  ·injection e with e1 e2
   subst e1
   exact ⟨hB.1, hB.2.1, Nat.lt_of_lt_of_le hB.2.2 hc.size⟩
  ·have := h4 k ⟨o, List.mem_cons_of_mem _ e⟩
   exact ⟨this.1, this.2.1, Nat.lt_of_lt_of_le this.2.2 hc.size⟩
 ·refine ⟨hc.os.trans h6.os, hc.tape.trans h6.tape, hc.output.trans h6.output, Nat.le_trans h6.size hc.size, fun k hlt => ?_⟩
  have hl2 : k < w.heap.size := Nat.lt_of_lt_of_le (by omega) h6.size
  have := h.lo
  exact (hc.block k hl2 (by omega)).trans (h6.block k hlt)
 ·rcases List.mem_cons.1 q with e | e
  ·injection e with e1 e2
   subst e1 e2
   exact hr
  ·have hne : k ≠ B := fun q => h.new o (by rw [← q]; exact e)
   exact (hc.block k (lt_some (hk k o (List.mem_cons_of_mem _ e))) hne).trans (hk k o (List.mem_cons_of_mem _ e))
theorem chg_one (w : World) (B i : Nat) (v : Value) : Chg (· = B) w (w.setCell ⟨B, i, none⟩ v) := chg_set w (· = B) B i v rfl
theorem Tk.box (g2 : Good base Q2) (h : Tk base g most Q2 L L2 bs B T y rest w0 w) (cs : Array Value) (t : TypeId) {b : Nat} (hb : w.heap.size = b) :
  Tk base g most Q2 L L2 ((b, (.cells cs t (0, 0) : Obj)) :: bs) B T y rest w0 (w.alloc (.cells cs t : Obj)) ∧ b ≠ B ∧ base ≤ b ∧ ∀ o, (b, o) ∉ bs := by
 subst hb
 have hl := h.lt
 have hbl := h.cs.pair.base_le
 have c := h.cs.box (PSq.good base g most) g2 cs t
 refine ⟨⟨c.less (fun x q => ?_), h.lo, fun o q => ?_, h.wf⟩, by omega, hbl, fun o q => ?_⟩
 ·simp only [List.mem_cons] at q ⊢
  rcases q with e | e | e
  ·exact .inr (.inl e)
  ·exact .inl e
  ·exact .inr (.inr e)
 ·rcases List.mem_cons.1 q with e | e
  ·injection e with e1 e2
   omega
  ·exact h.new o e
 ·have := lt_some (h.cs.kept _ o (List.mem_cons_of_mem _ q))
  omega
theorem Tk.boxc (h : Tk base g most Q2 L L2 bs B T y rest w0 w) {b : Nat} {cs : Array Value} {t : TypeId} (hm : (b, (.cells cs t (0, 0) : Obj)) ∈ bs) (i : Nat) {v : Value} (hv : cs[i]? = some v) : w.cell? ⟨b, i, none⟩ = some v ∧ w.frozen? ⟨b, i, none⟩ = false := by
 have hr := h.cs.kept _ _ (List.mem_cons_of_mem _ hm)
 exact ⟨by simp [World.cell?, hr, hv], frz_of_row i hr⟩
theorem Tk.unbox (g2 : Good base Q2) {b : Nat} {o : Obj} (h : Tk base g most Q2 L L2 ((b, o) :: bs) B T y rest w0 w) (hn : b ≠ B ∧ base ≤ b ∧ ∀ o, (b, o) ∉ bs) (hc : Chg (· = b) w w') : Tk base g most Q2 L L2 bs B T y rest w0 w' := by
 refine ⟨h.cs.set (PSq.good base g most) g2 (· = b) (fun k q => ?_) hc (fun x q => ?_), h.lo, fun o q => h.new o (List.mem_cons_of_mem _ q), h.wf⟩
 ·subst q
  exact ⟨hn.2.1, o, by simp⟩
 ·rcases List.mem_cons.1 q with e | e
  ·subst e
   exact ⟨by simp, fun q => hn.1 q.symm⟩
  ·refine ⟨List.mem_cons_of_mem _ (List.mem_cons_of_mem _ e), fun q => hn.2.2 x.2 ?_⟩
   rw [← show x.1 = b from q]
   exact e
theorem Tk.unbox0 {b : Nat} {o : Obj} (h : Tk base g most Q2 L L2 ((b, o) :: bs) B T y rest w0 w) : Tk base g most Q2 L L2 bs B T y rest w0 w :=
 ⟨h.cs.less (fun x q => (List.mem_cons.1 q).elim (fun e => by rw [e]; exact List.mem_cons_self) (fun e => List.mem_cons_of_mem _ (List.mem_cons_of_mem _ e))), h.lo, fun o q => h.new o (List.mem_cons_of_mem _ q), h.wf⟩
theorem Tk.unbox4 (g2 : Good base Q2) {b : Nat} {t : TypeId} {a0 a1 a2 a3 : Value} (h : Tk base g most Q2 L L2 ((b, (.cells #[a0, a1, a2, a3] t (0, 0) : Obj)) :: bs) B T y rest w0 w) (hn : b ≠ B ∧ base ≤ b ∧ ∀ o, (b, o) ∉ bs) (v0 v1 v2 v3 : Value) :
  Tk base g most Q2 L L2 bs B T y rest w0 ((((w.setCell ⟨b, 0, none⟩ v0).setCell ⟨b, 1, none⟩ v1).setCell ⟨b, 2, none⟩ v2).setCell ⟨b, 3, none⟩ v3) ∧ ((((w.setCell ⟨b, 0, none⟩ v0).setCell ⟨b, 1, none⟩ v1).setCell ⟨b, 2, none⟩ v2).setCell ⟨b, 3, none⟩ v3).heap[b]? = some (.cells #[v0, v1, v2, v3] t (0, 0)) := by
 have hr := h.cs.kept b _ (List.mem_cons_of_mem _ List.mem_cons_self)
 exact ⟨h.unbox g2 hn ((((chg_one _ _ _ _).trans (chg_one _ _ _ _)).trans (chg_one _ _ _ _)).trans (chg_one _ _ _ _)), row_set4 v0 v1 v2 v3 hr⟩
theorem Tk.put4 (g2 : Good base Q2) (h : Tk base g most Q2 L L2 bs B T y rest w0 w) (hy : y'.Wf) :
  Tk base g most Q2 L L2 bs B T y' rest w0 ((((w.setCell ⟨B, 1, none⟩ (.int .i64 y'.CK)).setCell ⟨B, 2, none⟩ (.int .i64 y'.K)).setCell ⟨B, 3, none⟩ (.int .i64 y'.H)).setCell ⟨B, 4, none⟩ (.int .u64 y'.N)) := by
 refine h.turn g2 hy ((((chg_one _ _ _ _).trans (chg_one _ _ _ _)).trans (chg_one _ _ _ _)).trans (chg_one _ _ _ _)) ?_
 rw [row_set 4 _ (row_set 3 _ (row_set 2 _ (row_set 1 _ h.row)))]
 simp [tkO, tkL]
theorem Tk.put (g2 : Good base Q2) (h : Tk base g most Q2 L L2 bs B T y rest w0 w) (j : Nat) (v : Value) : Tk base g most Q2 L L2 bs B T y (rest.set j v) w0 (w.setCell ⟨B, j + 5, none⟩ v) := by
 refine h.turn g2 h.wf (chg_one _ _ _ _) ?_
 rw [row_set (j + 5) _ h.row]
 simp [tkO, tkL]
end
section
variable {L L' : List Tm} {most : Int}
theorem put_sd {t : Tm} {a e : Int} (h : Sound L) (hf : putF L most t = (a, e, L')) : Sound L' := by
 have := h.put most t
 rw [hf] at this
 exact this
theorem say_sd {y y' : Sy} {x e : Int} (h : Sound L) (hf : sayF L most y x = (y', e, L')) : Sound L' := by
 have e1 : (sayF L most y x).2.2 = (putF L most (hashT y.H x)).2.2 := by unfold sayF; simp only []; split <;> rfl
 rw [hf] at e1
 rw [show L' = _ from e1]
 exact h.put _ _
theorem begin_sd {S : ByteArray} {y' : Sy} {e : Int} (h : Sound L) (hf : beginF L most S = (y', e, L')) : Sound L' := by
 have e1 : (beginF L most S).2.2 = (putF L most (textT S)).2.2 := by unfold beginF; simp only []; split <;> rfl
 rw [hf] at e1
 rw [show L' = _ from e1]
 exact h.put _ _
theorem mix_sd {k i a b e : Int} (h : Sound L) (hf : mixF L most k i = (a, b, e, L')) : Sound L' := by
 have e1 : Sound (mixF L most k i).2.2.2 := by
  unfold mixF
  simp only []
  split
  ·exact h.put _ _
  ·split
   ·exact (h.put _ _).put _ _
   ·split <;> exact ((h.put _ _).put _ _).put _ _
 rw [hf] at e1
 exact e1
theorem turn_sd {y y' : Sy} {x e : Int} (h : Sound L) (hf : turnF L most y x = (y', e, L')) : Sound L' := by
 have e1 : (turnF L most y x).2.2 = (mixF L most y.CK x).2.2.2 := by unfold turnF; simp only []; split <;> rfl
 rw [hf] at e1
 rw [show L' = _ from e1]
 exact mix_sd h rfl
theorem seal_sd {y y' : Sy} {x c e : Int} (h : Sound L) (hf : sealF L most y x = (y', c, e, L')) : Sound L' := by
 have e1 : Sound (sealF L most y x).2.2.2 := by
  unfold sealF
  split
  ·exact h
  ·simp only []
   split
   ·exact h.put _ _
   ·split <;> exact (h.put _ _).put _ _
 rw [hf] at e1
 exact e1
theorem unseal_sd {y y' : Sy} {x c e : Int} (h : Sound L) (hf : unsealF L most y x = (y', c, e, L')) : Sound L' := by
 have e1 : Sound (unsealF L most y x).2.2.2 := by
  unfold unsealF
  split
  ·exact h
  ·simp only []
   split
   ·exact h
   ·split <;> exact h.put _ _
 rw [hf] at e1
 exact e1
theorem split_sd {y : Sy} {a b e : Int} (h : Sound L) (hf : splitF L most y = (a, b, e, L')) : Sound L' := by
 have e1 : Sound (splitF L most y).2.2.2 := by
  unfold splitF
  simp only []
  split
  ·exact h.put _ _
  ·exact mix_sd (h.put _ _) rfl
 rw [hf] at e1
 exact e1
theorem agree_sd {x p a e : Int} (h : Sound L) (hf : agreeF L most x p = (a, e, L')) : Sound L' := by
 have e1 : Sound (agreeF L most x p).2.2 := by
  unfold agreeF
  split
  ·first | exact h.put _ _ | exact h | (split <;> first | exact h.put _ _ | exact h)
  ·first | exact h | exact h.put _ _
 rw [hf] at e1
 exact e1
theorem wrap_sd {p d a b e : Int} (h : Sound L) (hf : wrapF L most p d = (a, b, e, L')) : Sound L' := by
 have e1 : Sound (wrapF L most p d).2.2.2 := by
  unfold wrapF
  split
  ·simp only []
   split
   ·exact h.put _ _
   ·split <;> exact (h.put _ _).put _ _
  ·exact h
 rw [hf] at e1
 exact e1
theorem kopen_sd {x c a e : Int} (h : Sound L) (hf : kopenF L most x c = (a, e, L')) : Sound L' := by
 have e1 : Sound (kopenF L most x c).2.2 := by
  unfold kopenF
  split
  ·split
   ·exact h.put _ _
   ·exact h
  ·exact h
 rw [hf] at e1
 exact e1
end
section
variable {L L' : List Tm} {most : Int}
theorem u64_iff (x : Int) : U64 x ↔ 0 ≤ x ∧ x ≤ 18446744073709551615 := by
 simp [U64, Lit.wf, IntKind.bits, IntKind.signed, IntKind.min, IntKind.max]
theorem u64_next {x : Int} (h : U64 x) (hn : x ≠ lastN) : U64 (x + 1) := by
 rw [u64_iff] at h ⊢
 unfold lastN at hn
 omega
theorem say_wf {y y' : Sy} {x : Int} (hl : (L.length : Int) ≤ most) (hm : most ≤ 1048576) (hy : y.Wf) (h : sayF L most y x = (y', 0, L')) : y'.Wf := by
 obtain ⟨a, e, L1, hp⟩ : ∃ a e L1, putF L most (hashT y.H x) = (a, e, L1) := ⟨_, _, _, rfl⟩
 have ha := name_i64 hl hm hp
 by_cases he : e = 0
 ·subst he
  rw [say_yes hp] at h
  injection h with h1 h2
  subst h1
  exact ⟨hy.1, hy.2, ha, hy.4⟩
 ·rw [say_no hp he] at h
  injection h with h1 h2
  injection h2 with h2 h3
  exact absurd h2 he
theorem mix_i64 {k i a b e : Int} (hl : (L.length : Int) ≤ most) (hm : most ≤ 1048576) (hf : Fit L) (h : mixF L most k i = (a, b, e, L')) : I64 a ∧ I64 b := by
 obtain ⟨c, e1, L1, h1⟩ : ∃ a e L1, putF L most (hashT k i) = (a, e, L1) := ⟨_, _, _, rfl⟩
 have f1 := fit_putF (t := hashT k i) hf hl
 rw [h1] at f1
 by_cases q1 : e1 = 0
 ·subst q1
  obtain ⟨c2, e2, L2, h2⟩ : ∃ a e L2, putF L1 most (keyT c 1) = (a, e, L2) := ⟨_, _, _, rfl⟩
  have f2 := fit_putF (t := keyT c 1) f1.1 f1.2
  rw [h2] at f2
  by_cases q2 : e2 = 0
  ·subst q2
   obtain ⟨c3, e3, L3, h3⟩ : ∃ a e L3, putF L2 most (keyT c 2) = (a, e, L3) := ⟨_, _, _, rfl⟩
   by_cases q3 : e3 = 0
   ·subst q3
    rw [mix_yes h1 h2 h3] at h
    injection h with x1 h
    injection h with x2 h
    subst x1 x2
    exact ⟨name_i64 f1.2 hm h2, name_i64 f2.2 hm h3⟩
   ·rw [mix_no3 h1 h2 h3 q3] at h
    injection h with x1 h
    injection h with x2 h
    subst x1 x2
    exact ⟨k0, k0⟩
  ·rw [mix_no2 h1 h2 q2] at h
   injection h with x1 h
   injection h with x2 h
   subst x1 x2
   exact ⟨k0, k0⟩
 ·rw [mix_no1 h1 q1] at h
  injection h with x1 h
  injection h with x2 h
  subst x1 x2
  exact ⟨k0, k0⟩
theorem turn_wf {y y' : Sy} {x : Int} (hl : (L.length : Int) ≤ most) (hm : most ≤ 1048576) (hf : Fit L) (hy : y.Wf) (h : turnF L most y x = (y', 0, L')) : y'.Wf := by
 obtain ⟨a, b, e, L1, hp⟩ : ∃ a b e L1, mixF L most y.CK x = (a, b, e, L1) := ⟨_, _, _, _, rfl⟩
 have hab := mix_i64 hl hm hf hp
 by_cases he : e = 0
 ·subst he
  rw [turn_yes hp] at h
  injection h with h1 h2
  subst h1
  exact ⟨hab.1, hab.2, hy.3, u64_small (x := 0) (by decide) (by decide)⟩
 ·rw [turn_no hp he] at h
  injection h with h1 h2
  injection h2 with h2 h3
  exact absurd h2 he
theorem sealY_wf {y y' : Sy} {x c : Int} (hl : (L.length : Int) ≤ most) (hm : most ≤ 1048576) (hf : Fit L) (hy : y.Wf) (h : sealF L most y x = (y', c, 0, L')) : y'.Wf ∧ I64 c := by
 by_cases h0 : y.K = 0 ∨ y.N = lastN
 ·rw [seal_not h0] at h
  injection h with h1 h2
  injection h2 with h2 h3
  injection h3 with h3 h4
  exact absurd h3 (by decide)
 ·obtain ⟨a, e1, L1, p1⟩ : ∃ a e L1, putF L most (sealT y.K y.N y.H x) = (a, e, L1) := ⟨_, _, _, rfl⟩
  have f1 := fit_putF (t := sealT y.K y.N y.H x) hf hl
  rw [p1] at f1
  by_cases q1 : e1 = 0
  ·subst q1
   obtain ⟨b, e2, L2, p2⟩ : ∃ b e L2, putF L1 most (hashT y.H a) = (b, e, L2) := ⟨_, _, _, rfl⟩
   by_cases q2 : e2 = 0
   ·subst q2
    rw [seal_yes h0 p1 p2] at h
    injection h with h1 h2
    injection h2 with h2 h3
    subst h1 h2
    exact ⟨⟨hy.1, hy.2, name_i64 f1.2 hm p2, u64_next hy.4 (fun q => h0 (.inr q))⟩, name_i64 hl hm p1⟩
   ·rw [seal_no2 h0 p1 p2 q2] at h
    injection h with h1 h2
    injection h2 with h2 h3
    injection h3 with h3 h4
    exact absurd h3 q2
  ·rw [seal_no1 h0 p1 q1] at h
   injection h with h1 h2
   injection h2 with h2 h3
   injection h3 with h3 h4
   exact absurd h3 q1
theorem unseal_wf {y y' : Sy} {x c : Int} (hl : (L.length : Int) ≤ most) (hm : most ≤ 1048576) (hy : y.Wf) (h : unsealF L most y x = (y', c, 0, L')) : y'.Wf := by
 by_cases h0 : y.K = 0 ∨ y.N = lastN
 ·rw [unseal_not h0] at h
  injection h with h1 h2
  injection h2 with h2 h3
  injection h3 with h3 h4
  exact absurd h3 (by decide)
 ·obtain ⟨a, e1, p1⟩ : ∃ a e, openF L y.K y.N y.H x = (a, e) := ⟨_, _, rfl⟩
  by_cases q1 : e1 = 0
  ·subst q1
   obtain ⟨b, e2, L2, p2⟩ : ∃ b e L2, putF L most (hashT y.H x) = (b, e, L2) := ⟨_, _, _, rfl⟩
   by_cases q2 : e2 = 0
   ·subst q2
    rw [unseal_yes h0 p1 p2] at h
    injection h with h1 h2
    subst h1
    exact ⟨hy.1, hy.2, name_i64 hl hm p2, u64_next hy.4 (fun q => h0 (.inr q))⟩
   ·rw [unseal_no2 h0 p1 p2 q2] at h
    injection h with h1 h2
    injection h2 with h2 h3
    injection h3 with h3 h4
    exact absurd h3 q2
  ·rw [unseal_no1 h0 p1 q1] at h
   injection h with h1 h2
   injection h2 with h2 h3
   injection h3 with h3 h4
   exact absurd h3 q1
theorem begin_wf {S : ByteArray} {y' : Sy} (hl : (L.length : Int) ≤ most) (hm : most ≤ 1048576) (h : beginF L most S = (y', 0, L')) : y'.Wf := by
 obtain ⟨a, e, L1, hp⟩ : ∃ a e L1, putF L most (textT S) = (a, e, L1) := ⟨_, _, _, rfl⟩
 have ha := name_i64 hl hm hp
 by_cases he : e = 0
 ·subst he
  rw [begin_yes hp] at h
  injection h with h1 h2
  subst h1
  exact ⟨ha, k0, ha, u64_small (x := 0) (by decide) (by decide)⟩
 ·rw [begin_no hp he] at h
  injection h with h1 h2
  injection h2 with h2 h3
  exact absurd h2 he
end
theorem must_yes (w : World) : Calls Tryz.prog 169 #[.int .i64 0] w fun e w' => e = .returned (.tuple #[]) ∧ w' = w := by
 go_enter Tryz.func169, Tryz.ntmps169
 go_wp2
 first
  | go_end0
  | refine bodyPost_ret (results_none rfl _ _ _) rfl ?_
 exact ⟨rfl, rfl⟩
theorem must_no (c : Int) (hc : c ≠ 0) (w : World) : Calls Tryz.prog 169 #[.int .i64 c] w fun e w' => e = Fell c ∧ w' = w := by
 have h1 : (c != 0) = true := by simpa using hc
 go_enter Tryz.func169, Tryz.ntmps169
 go_wp2
 simp [bodyPost, Fell]
theorem got_yes (x : Int) (w : World) : Calls Tryz.prog 118 #[.int .i64 x, .int .i64 0] w fun e w' => e = .returned (.int .i64 x) ∧ w' = w := by
 go_enter Tryz.func118, Tryz.ntmps118
 go_wp2_with fail
 refine (must_yes _).mono ?_
 rintro e w1 ⟨rfl, rfl⟩
 go_wp2_with fail
 go_ret
 exact ⟨rfl, rfl⟩
theorem got_no (x : Int) (e : Int) (he : e ≠ 0) (w : World) : Calls Tryz.prog 118 #[.int .i64 x, .int .i64 e] w fun e' w' => e' = Fell e ∧ w' = w := by
 go_enter Tryz.func118, Tryz.ntmps118
 go_wp2_with fail
 refine (must_no e he _).mono ?_
 rintro e' w1 ⟨rfl, rfl⟩
 unfold Fell
 go_wp2_with fail
 simp [bodyPost, Fell]
theorem gotY_yes (a b c d : Int) (w : World) : Calls Tryz.prog 166 #[.agg #[.int .i64 a, .int .i64 b, .int .i64 c, .int .u64 d], .int .i64 0] w fun e w' => e = .returned (.agg #[.int .i64 a, .int .i64 b, .int .i64 c, .int .u64 d]) ∧ Below w.heap.size w w' := by
 go_enter Tryz.func166, Tryz.ntmps166
 go_wp2_with fail
 refine (must_yes _).mono ?_
 rintro e w1 ⟨rfl, rfl⟩
 go_wp2_with fail
 exact bodyPost_ret (v := .agg #[.int .i64 a, .int .i64 b, .int .i64 c, .int .u64 d]) (by simp [results, Tryz.results166, go_sem]) rfl ⟨rfl, ((Below.refl _ _).alloc (Nat.le_refl _) _).alloc (by simp) _⟩
theorem gotY_no (a b c d : Int) (e : Int) (he : e ≠ 0) (w : World) : Calls Tryz.prog 166 #[.agg #[.int .i64 a, .int .i64 b, .int .i64 c, .int .u64 d], .int .i64 e] w fun e' w' => e' = Fell e ∧ Below w.heap.size w w' := by
 go_enter Tryz.func166, Tryz.ntmps166
 go_wp2_with fail
 refine (must_no e he _).mono ?_
 rintro e' w1 ⟨rfl, rfl⟩
 unfold Fell
 go_wp2_with fail
 exact ⟨rfl, rfl, ((Below.refl _ _).alloc (Nat.le_refl _) _).alloc (by simp) _⟩
theorem gotS_yes (a b : Int) (w : World) : Calls Tryz.prog 135 #[.agg #[.int .i64 a, .int .i64 b], .int .i64 0] w fun e w' => e = .returned (.agg #[.int .i64 a, .int .i64 b]) ∧ Below w.heap.size w w' := by
 go_enter Tryz.func135, Tryz.ntmps135
 go_wp2_with fail
 refine (must_yes _).mono ?_
 rintro e w1 ⟨rfl, rfl⟩
 go_wp2_with fail
 exact bodyPost_ret (v := .agg #[.int .i64 a, .int .i64 b]) (by simp [results, Tryz.results135, go_sem]) rfl ⟨rfl, ((Below.refl _ _).alloc (Nat.le_refl _) _).alloc (by simp) _⟩
theorem gotS_no (a b : Int) (e : Int) (he : e ≠ 0) (w : World) : Calls Tryz.prog 135 #[.agg #[.int .i64 a, .int .i64 b], .int .i64 e] w fun e' w' => e' = Fell e ∧ Below w.heap.size w w' := by
 go_enter Tryz.func135, Tryz.ntmps135
 go_wp2_with fail
 refine (must_no e he _).mono ?_
 rintro e' w1 ⟨rfl, rfl⟩
 unfold Fell
 go_wp2_with fail
 exact ⟨rfl, rfl, ((Below.refl _ _).alloc (Nat.le_refl _) _).alloc (by simp) _⟩
end Go.Proofs.YtgeonppckeiceaaGreatDoor
