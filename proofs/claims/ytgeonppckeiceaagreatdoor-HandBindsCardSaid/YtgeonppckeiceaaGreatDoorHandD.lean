/- A handshake with another field in between: by the kernel, for each field and each name. -/
import Derived.Test.YtgeonppckeiceaaGreatDoorGp42
namespace Go.Proofs.YtgeonppckeiceaaGreatDoor
open Go.RowKit
set_option linter.unusedVariables false
set_option linter.unusedSimpArgs false
def wfB (m : Mg) : Bool := (List.range 13).all (fun j => j == 3 || (Lit.int (Ms.kCell j) (m.i j)).wf) && decide (m.s.size ≤ maxLen)
theorem wfB_wf {m : Mg} (h : wfB m = true) : Ms.Ms.Wf m := by
  unfold wfB at h
  rw [Bool.and_eq_true, List.all_eq_true] at h
  refine ⟨fun j hj => ?_, by simpa using h.2⟩
  have hlt : j < 13 ∧ j ≠ 3 := by simpa [Ms.nCell] using hj
  have := h.1 j (by simpa using hlt.1)
  simpa [hlt.2] using this
def syB (y : Sy) : Bool := (Lit.int .i64 y.CK).wf && (Lit.int .i64 y.K).wf && (Lit.int .i64 y.H).wf && (Lit.int .u64 y.N).wf
theorem syB_wf {y : Sy} (h : syB y = true) : y.Wf := by
  unfold syB at h
  simp only [Bool.and_eq_true] at h
  exact ⟨h.1.1.1, h.1.1.2, h.1.2, h.2⟩
def zOpd (o : Opd) : Bool := o.y.CK == 0 && o.y.K == 0 && o.y.H == 0 && o.y.N == 0 && o.peer == 0 && o.version == 0 && o.stamp == 0 && o.e == 0 && o.ek == 0 && o.pub == 0
theorem zOpd_eq {o : Opd} (h : zOpd o = true) : o = zeroOpd := by
  obtain ⟨⟨a, b, c, d⟩, e, f, g, h1, h2, h3⟩ := o
  simp only [zOpd, Bool.and_eq_true, beq_iff_eq] at h
  obtain ⟨⟨⟨⟨⟨⟨⟨⟨⟨rfl, rfl⟩, rfl⟩, rfl⟩, rfl⟩, rfl⟩, rfl⟩, rfl⟩, rfl⟩, rfl⟩ := h
  rfl
def zSes (s : Ses) : Bool := s.h == 0 && s.send == 0 && s.recv == 0 && s.version == 0
theorem zSes_eq {s : Ses} (h : zSes s = true) : s = zeroSes := by
  obtain ⟨a, b, c, d⟩ := s
  simp only [zSes, Bool.and_eq_true, beq_iff_eq] at h
  obtain ⟨⟨⟨rfl, rfl⟩, rfl⟩, rfl⟩ := h
  rfl
def setI (m : Mg) (j : Nat) (k : Int) : Mg := ⟨fun i => if i = j then k else m.i i, m.s⟩
def xOf (m : Mg) (k : Int) : Nat → Mg
  | 0 => ⟨m.i, ⟨#[1]⟩⟩
  | 1 => setI m 4 1
  | 2 => setI m 6 k
  | 3 => setI m 7 k
  | 4 => setI m 8 k
  | 5 => setI m 9 k
  | 6 => setI m 10 k
  | _ => m
def yOf (r : Mg) (k : Int) : Nat → Mg
  | 7 => setI r 6 k
  | 8 => setI r 9 k
  | _ => r
def s0 := hBegin 5000 L18 (1, 2) pB 7 ⟨#[3, 1]⟩ 0 5 7 8 9
def s1 := hOpen 5000 s0.2.2.2 (3, 4) [pA] ⟨#[3, 2, 1]⟩ s0.1
def s2 := hAnswer 5000 s1.2.2 s1.1 9 7 10 11
def s3 (wh : Nat) (k : Int) := hOpen 5000 s2.2.2.2 (3, 4) [pA] ⟨#[3, 2, 1]⟩ (xOf s0.1 k wh)
def s4 (wh : Nat) (k : Int) := hFinish 5000 (s3 wh k).2.2 1 s0.2.1 (yOf s2.1 k wh)
def bindB (wh : Nat) (k : Int) : Bool := (decide ((s3 wh k).2.1 = 0) == Ms.eqM (xOf s0.1 k wh) s0.1) && (decide ((s3 wh k).2.1 = 0) || zOpd (s3 wh k).1) && (decide ((s4 wh k).2.1 = 0) == Ms.eqM (yOf s2.1 k wh) s2.1) && (decide ((s4 wh k).2.1 = 0) || zSes (s4 wh k).1) && wfB (xOf s0.1 k wh) && wfB (yOf s2.1 k wh) && (Lit.int .i64 (s3 wh k).1.e).wf && (Lit.int .i64 (s3 wh k).2.1).wf
def baseB : Bool := s0.2.2.1 == 0 && s1.2.1 == 0 && s2.2.2.1 == 0 && wfB s0.1 && wfB s2.1 && syB s1.1.y && syB s0.2.1.y && (Lit.int .i64 s0.2.1.e).wf && (Lit.int .i64 s0.2.1.ek).wf && s2.2.2.2.length == 74
set_option maxRecDepth 100000
theorem base_all : baseB = true := by decide +kernel
theorem bind0 : ((List.range 1).all fun k => bindB 0 (k + 1)) = true := by decide +kernel
theorem bind1 : ((List.range 1).all fun k => bindB 1 (k + 1)) = true := by decide +kernel
theorem bind2 : ((List.range 74).all fun k => bindB 2 (k + 1)) = true := by decide +kernel
theorem bind3 : ((List.range 74).all fun k => bindB 3 (k + 1)) = true := by decide +kernel
theorem bind4 : ((List.range 74).all fun k => bindB 4 (k + 1)) = true := by decide +kernel
theorem bind5 : ((List.range 74).all fun k => bindB 5 (k + 1)) = true := by decide +kernel
theorem bind6 : ((List.range 74).all fun k => bindB 6 (k + 1)) = true := by decide +kernel
theorem bind7 : ((List.range 74).all fun k => bindB 7 (k + 1)) = true := by decide +kernel
theorem bind8 : ((List.range 74).all fun k => bindB 8 (k + 1)) = true := by decide +kernel
theorem bind01 (h : ((List.range 1).all fun k => bindB 0 (k + 1)) = true) {k : Int} : bindB 0 k = true := by
  have : bindB 0 1 = true := by simpa using h
  exact this
theorem bind11 (h : ((List.range 1).all fun k => bindB 1 (k + 1)) = true) {k : Int} : bindB 1 k = true := by
  have : bindB 1 1 = true := by simpa using h
  exact this
theorem bind_k {wh : Nat} {k : Int} (h : wh < 9) (h1 : 1 ≤ k) (h2 : k ≤ 74) : bindB wh k = true := by
  have e : ((k - 1).toNat : Int) + 1 = k := by omega
  have g : ∀ {w : Nat} {n : Nat}, ((List.range n).all fun k => bindB w (k + 1)) = true → (k - 1).toNat < n → bindB w k = true := fun q hn => by
    rw [List.all_eq_true] at q
    have := q (k - 1).toNat (by simpa using hn)
    rwa [e] at this
  match wh, h with
  | 0, _ => exact bind01 bind0
  | 1, _ => exact bind11 bind1
  | 2, _ => exact g bind2 (by omega)
  | 3, _ => exact g bind3 (by omega)
  | 4, _ => exact g bind4 (by omega)
  | 5, _ => exact g bind5 (by omega)
  | 6, _ => exact g bind6 (by omega)
  | 7, _ => exact g bind7 (by omega)
  | 8, _ => exact g bind8 (by omega)
structure BaseIs (m : Mg) (q : Pnd) (o : Opd) (r : Mg) (u : Ses) (L1 L2 L3 : List Tm) : Prop where
  c1 : hBegin 5000 L18 (1, 2) pB 7 ⟨#[3, 1]⟩ 0 5 7 8 9 = (m, q, 0, L1)
  c2 : hOpen 5000 L1 (3, 4) [pA] ⟨#[3, 2, 1]⟩ m = (o, 0, L2)
  c3 : hAnswer 5000 L2 o 9 7 10 11 = (r, u, 0, L3)
  mw : Ms.Ms.Wf m
  rw : Ms.Ms.Wf r
  oy : o.y.Wf
  qy : q.y.Wf
  qe : I64 q.e
  qk : I64 q.ek
  len : L3.length = 74
structure BindIs (m r : Mg) (q : Pnd) (L3 : List Tm) (x y : Mg) (w : Opd) (h : Int) (L4 : List Tm) (v : Ses) (i : Int) (L5 : List Tm) : Prop where
  c4 : hOpen 5000 L3 (3, 4) [pA] ⟨#[3, 2, 1]⟩ x = (w, h, L4)
  c5 : hFinish 5000 L4 1 q y = (v, i, L5)
  ex : Ms.eqM x m = decide (h = 0)
  ey : Ms.eqM y r = decide (i = 0)
  zw : h ≠ 0 → w = zeroOpd
  zv : i ≠ 0 → v = zeroSes
  xw : Ms.Ms.Wf x
  yw : Ms.Ms.Wf y
theorem base_is : ∃ m q o r u L1 L2 L3, BaseIs m q o r u L1 L2 L3 ∧ ∀ (wh : Nat) (k : Int), wh < 9 → 1 ≤ k → k ≤ 74 → ∃ w h L4 v i L5, BindIs m r q L3 (xOf m k wh) (yOf r k wh) w h L4 v i L5 := by
  have hb := base_all
  unfold baseB at hb
  simp only [Bool.and_eq_true, beq_iff_eq] at hb
  obtain ⟨⟨⟨⟨⟨⟨⟨⟨⟨h1, h2⟩, h3⟩, h4⟩, h5⟩, h6⟩, h7⟩, h8⟩, h9⟩, h10⟩ := hb
  refine ⟨s0.1, s0.2.1, s1.1, s2.1, s2.2.1, s0.2.2.2, s1.2.2, s2.2.2.2, ⟨Prod.ext rfl (Prod.ext rfl (Prod.ext h1 rfl)), Prod.ext rfl (Prod.ext h2 rfl), Prod.ext rfl (Prod.ext rfl (Prod.ext h3 rfl)), wfB_wf h4, wfB_wf h5, syB_wf h6, syB_wf h7, h8, h9, h10⟩, fun wh k a b c => ?_⟩
  have hk := bind_k a b c
  unfold bindB at hk
  simp only [Bool.and_eq_true, beq_iff_eq] at hk
  obtain ⟨⟨⟨⟨⟨⟨⟨g1, g2⟩, g3⟩, g4⟩, g5⟩, g6⟩, g7⟩, g8⟩ := hk
  refine ⟨(s3 wh k).1, (s3 wh k).2.1, (s3 wh k).2.2, (s4 wh k).1, (s4 wh k).2.1, (s4 wh k).2.2, rfl, rfl, g1.symm, g3.symm, fun e => ?_, fun e => ?_, wfB_wf g5, wfB_wf g6⟩
  · rw [decide_eq_false e, Bool.false_or] at g2; exact zOpd_eq g2
  · rw [decide_eq_false e, Bool.false_or] at g4; exact zSes_eq g4
end Go.Proofs.YtgeonppckeiceaaGreatDoor
