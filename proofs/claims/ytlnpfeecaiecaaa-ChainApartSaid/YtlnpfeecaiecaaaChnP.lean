/- Chains: as functions of a store's terms. No program is named here. Chains compared. Chains: the document's Seal and Next. Chains: the program's Seal and Next. -/
import Derived.Test.YtlnpfeecaiecaaaKdfC
import Derived.Laws.StructEq
import Derived.Deep.Cut
import Derived.Deep.CutRange
import Derived.Deep.LoopGhost
import Derived.BigQuiet
import Derived.Deep.Slices
namespace Go.Proofs.Ytlnpfeecaiecaaa
open Go.RowKit
set_option linter.unusedVariables false
set_option linter.unusedSimpArgs false
set_option maxRecDepth 20000
/-- A chain: its key, and the epoch. -/
structure Cn where
  key : Int
  ep : Int
def Cn.v (c : Cn) : Value := .agg #[.int .i64 c.key, .int .i64 c.ep]
def Cn.Ok (c : Cn) : Prop := I64 c.key ∧ I64 c.ep
def badE (e : Int) : Bool := decide (e < 0) || decide (999 < e)
def nextF (L : List Tm) (most : Int) (c : Cn) : Cn × Int × List Tm :=
  if badE c.ep = true then (⟨0, 0⟩, 13, L) else
    if (putF L most (keyT c.key 2)).2.1 ≠ 0 then (⟨0, 0⟩, (putF L most (keyT c.key 2)).2.1, (putF L most (keyT c.key 2)).2.2)
    else (⟨(putF L most (keyT c.key 2)).1, c.ep + 1⟩, 0, (putF L most (keyT c.key 2)).2.2)
theorem next_lim {L : List Tm} {most : Int} {c : Cn} (h : badE c.ep = true) : nextF L most c = (⟨0, 0⟩, 13, L) := by simp [nextF, h]
theorem next_no {L L1 : List Tm} {most a e : Int} {c : Cn} (h : badE c.ep = false) (hp : putF L most (keyT c.key 2) = (a, e, L1)) (he : e ≠ 0) : nextF L most c = (⟨0, 0⟩, e, L1) := by simp [nextF, h, hp, he]
theorem next_yes {L L1 : List Tm} {most a : Int} {c : Cn} (h : badE c.ep = false) (hp : putF L most (keyT c.key 2) = (a, 0, L1)) : nextF L most c = (⟨a, c.ep + 1⟩, 0, L1) := by simp [nextF, h, hp]
/-- So many epochs on, with the keys of those that are skipped behind those that there were. -/
def toA (most : Int) : Nat → List Tm → Cn → List Int → Cn × List Int × Int × List Tm
  | 0, L, c, ks => (c, ks, 0, L)
  | t + 1, L, c, ks =>
    if (putF L most (keyT c.key 1)).2.1 ≠ 0 then (⟨0, 0⟩, [], (putF L most (keyT c.key 1)).2.1, (putF L most (keyT c.key 1)).2.2) else
      if (nextF (putF L most (keyT c.key 1)).2.2 most c).2.1 ≠ 0 then (⟨0, 0⟩, [], (nextF (putF L most (keyT c.key 1)).2.2 most c).2.1, (nextF (putF L most (keyT c.key 1)).2.2 most c).2.2) else
        toA most t (nextF (putF L most (keyT c.key 1)).2.2 most c).2.2 (nextF (putF L most (keyT c.key 1)).2.2 most c).1 (ks ++ [(putF L most (keyT c.key 1)).1])
theorem to_zero (most : Int) (L : List Tm) (c : Cn) (ks : List Int) : toA most 0 L c ks = (c, ks, 0, L) := rfl
theorem to_seal {most a e : Int} {t : Nat} {L L1 : List Tm} {c : Cn} {ks : List Int} (h : putF L most (keyT c.key 1) = (a, e, L1)) (he : e ≠ 0) : toA most (t + 1) L c ks = (⟨0, 0⟩, [], e, L1) := by simp [toA, h, he]
theorem to_next {most a e : Int} {t : Nat} {L L1 L2 : List Tm} {c d : Cn} {ks : List Int} (h : putF L most (keyT c.key 1) = (a, 0, L1)) (hn : nextF L1 most c = (d, e, L2)) (he : e ≠ 0) : toA most (t + 1) L c ks = (⟨0, 0⟩, [], e, L2) := by simp [toA, h, hn, he]
theorem to_on {most a : Int} {t : Nat} {L L1 L2 : List Tm} {c d : Cn} {ks : List Int} (h : putF L most (keyT c.key 1) = (a, 0, L1)) (hn : nextF L1 most c = (d, 0, L2)) : toA most (t + 1) L c ks = toA most t L2 d (ks ++ [a]) := by simp [toA, h, hn]
def toF (L : List Tm) (most : Int) (c : Cn) (ep : Int) : Cn × List Int × Int × List Tm :=
  if ep < c.ep then (⟨0, 0⟩, [], 12, L) else if 4 < ep - c.ep then (⟨0, 0⟩, [], 13, L) else toA most (ep - c.ep).toNat L c []
theorem to_old {L : List Tm} {most ep : Int} {c : Cn} (h : ep < c.ep) : toF L most c ep = (⟨0, 0⟩, [], 12, L) := by simp [toF, h]
theorem to_lim {L : List Tm} {most ep : Int} {c : Cn} (h : 4 < ep - c.ep) : toF L most c ep = (⟨0, 0⟩, [], 13, L) := by
  unfold toF
  rw [if_neg (by omega), if_pos h]
theorem to_go {L : List Tm} {most ep : Int} {c : Cn} {t : Nat} (h : ep = c.ep + t) (ht : t ≤ 4) : toF L most c ep = toA most t L c [] := by
  unfold toF
  rw [if_neg (by omega), if_neg (by omega), show (ep - c.ep).toNat = t by omega]
theorem bad_no {e : Int} (h : badE e = false) : 0 ≤ e ∧ e ≤ 999 := by
  simp [badE] at h
  omega
section
variable {base : Nat} {Q1 Q2 : (Nat → Prop) → List Tm → World → Prop} {L1 L2 : List Tm} {K : Nat → Prop} {w0 w : World}
/-- A cell of a kept block is turned, whichever. -/
theorem Pair.setC (g1 : Good base Q1) (g2 : Good base Q2) (h : Pair base Q1 Q2 L1 L2 K w0 w) {b : Nat} (hk : K b) (hb : base ≤ b) (i : Nat) (v : Value) : Pair base Q1 Q2 L1 L2 K w0 (w.setCell ⟨b, i, none⟩ v) := by
  obtain ⟨F1, F2, h1, h2, h3, h4, h5, h6⟩ := h
  have C := Chg.setCell w b i v
  exact ⟨F1, F2, g1.frame h1 C (fun k a e => (h4 b hk).1 (e ▸ a)), g2.frame h2 C (fun k a e => (h4 b hk).2.1 (e ▸ a)), h3, fun k q => ⟨(h4 k q).1, (h4 k q).2.1, by simp; exact (h4 k q).2.2⟩, h5, h6.setCell hb v⟩
end
/-- A box of two cells is filled anew; the other blocks are as they were. -/
theorem fill2 {u : World} {x y : Value} {T : TypeId} (R : Nat) (a b : Value) (h : u.heap[R]? = some (.cells #[x, y] T (0, 0))) : ((u.setCell ⟨R, 0, none⟩ a).setCell ⟨R, 1, none⟩ b).heap[R]? = some (.cells #[a, b] T (0, 0)) := by
  have h1 := heap_setCell_same u R 0 _ _ a h
  have h2 := heap_setCell_same _ R 1 _ _ b h1
  simpa using h2
theorem fill2_other {u : World} (R : Nat) (a b : Value) {k : Nat} (h : k ≠ R) : ((u.setCell ⟨R, 0, none⟩ a).setCell ⟨R, 1, none⟩ b).heap[k]? = u.heap[k]? := by
  rw [heap_setCell_other _ _ _ _ (by exact h), heap_setCell_other _ _ _ _ (by exact h)]
theorem cells2 {u : World} {B : Nat} {x y : Value} {T : TypeId} (h : u.heap[B]? = some (.cells #[x, y] T (0, 0))) : u.cell? ⟨B, 0, none⟩ = some x ∧ u.cell? ⟨B, 1, none⟩ = some y ∧ u.frozen? ⟨B, 0, none⟩ = false ∧ u.frozen? ⟨B, 1, none⟩ = false := by
  refine ⟨?_, ?_, ?_, ?_⟩
  · simp [World.cell?, h]
  · simp [World.cell?, h]
  · simp [World.frozen?, h]
  · simp [World.frozen?, h]
theorem below_alloc (w : World) (o : Obj) : Below w.heap.size w (w.alloc o) := (Below.refl _ _).alloc (Nat.le_refl _) _
end Go.Proofs.Ytlnpfeecaiecaaa

namespace Go.Proofs.Ytlnpfeecaiecaaa
open Go.RowKit
set_option linter.unusedVariables false
set_option linter.unusedSimpArgs false
set_option maxRecDepth 20000
theorem heldC : Try.prog.stoodInHeld 30 = false := by kernel_rfl
theorem fieldsC : Try.prog.underlying 30 = some (.struct (Try.prog.fieldsOf 30)) := by kernel_rfl
set_option maxHeartbeats 2000000 in
theorem eqInC (a b c d : Int) (w : World) : (Op.equalIn 10000 30 (.agg #[.int .i64 a, .int .i64 b]) (.agg #[.int .i64 c, .int .i64 d])).run Try.prog w = .ok (a == c && b == d) w := by
  rw [run_equalIn_agg _ _ _ _ _ fieldsC heldC]
  have hf : (Try.prog.fieldsOf 30).toList = (match Try.prog.underlying 30 with | some (.struct fs) => fs.toList | _ => []) := by kernel_rfl
  rw [hf, Try.underlying30]
  have i30 := fun (w : World) (a b : Int) => run_equalIn_int (P := Try.prog) w 9998 3 .i64 .i64 a b Try.underlying3
  simp only [Op.eqFields]
  cases h0 : (a == c)
  · go_simp
  cases h1 : (b == d)
  · go_simp
  go_simp
theorem eqlC (a b c d : Int) (w : World) : (binOp .eql 30 (.agg #[.int .i64 a, .int .i64 b]) (.agg #[.int .i64 c, .int .i64 d])).run Try.prog w = .ok (.bool (a == c && b == d)) w := by
  have h := eqInC a b c d w
  rw [run_eql_struct, h]; rfl
theorem neqC (a b c d : Int) (w : World) : (binOp .neq 30 (.agg #[.int .i64 a, .int .i64 b]) (.agg #[.int .i64 c, .int .i64 d])).run Try.prog w = .ok (.bool (!(a == c && b == d))) w := by
  have h := eqInC a b c d w
  rw [run_neq_struct, h]; rfl
theorem sameC (a b : Int) (w : World) : (binOp .eql 30 (.agg #[.int .i64 a, .int .i64 b]) (.agg #[.int .i64 a, .int .i64 b])).run Try.prog w = .ok (.bool true) w := by rw [eqlC]; simp
theorem unlikeC (a b : Int) (w : World) : (binOp .neq 30 (.agg #[.int .i64 a, .int .i64 b]) (.agg #[.int .i64 a, .int .i64 b])).run Try.prog w = .ok (.bool false) w := by rw [neqC]; simp
theorem heldD : Try.prog.stoodInHeld 35 = false := by kernel_rfl
theorem fieldsD : Try.prog.underlying 35 = some (.struct (Try.prog.fieldsOf 35)) := by kernel_rfl
set_option maxHeartbeats 2000000 in
theorem eqInD (a b c d : Int) (w : World) : (Op.equalIn 10000 35 (.agg #[.int .i64 a, .int .i64 b]) (.agg #[.int .i64 c, .int .i64 d])).run Try.prog w = .ok (a == c && b == d) w := by
  rw [run_equalIn_agg _ _ _ _ _ fieldsD heldD]
  have hf : (Try.prog.fieldsOf 35).toList = (match Try.prog.underlying 35 with | some (.struct fs) => fs.toList | _ => []) := by kernel_rfl
  rw [hf, Try.underlying35]
  have i30 := fun (w : World) (a b : Int) => run_equalIn_int (P := Try.prog) w 9998 3 .i64 .i64 a b Try.underlying3
  simp only [Op.eqFields]
  cases h0 : (a == c)
  · go_simp
  cases h1 : (b == d)
  · go_simp
  go_simp
theorem eqlD (a b c d : Int) (w : World) : (binOp .eql 35 (.agg #[.int .i64 a, .int .i64 b]) (.agg #[.int .i64 c, .int .i64 d])).run Try.prog w = .ok (.bool (a == c && b == d)) w := by
  have h := eqInD a b c d w
  rw [run_eql_struct, h]; rfl
theorem neqD (a b c d : Int) (w : World) : (binOp .neq 35 (.agg #[.int .i64 a, .int .i64 b]) (.agg #[.int .i64 c, .int .i64 d])).run Try.prog w = .ok (.bool (!(a == c && b == d))) w := by
  have h := eqInD a b c d w
  rw [run_neq_struct, h]; rfl
theorem sameD (a b : Int) (w : World) : (binOp .eql 35 (.agg #[.int .i64 a, .int .i64 b]) (.agg #[.int .i64 a, .int .i64 b])).run Try.prog w = .ok (.bool true) w := by rw [eqlD]; simp
theorem unlikeD (a b : Int) (w : World) : (binOp .neq 35 (.agg #[.int .i64 a, .int .i64 b]) (.agg #[.int .i64 a, .int .i64 b])).run Try.prog w = .ok (.bool false) w := by rw [neqD]; simp
end Go.Proofs.Ytlnpfeecaiecaaa

namespace Go.Proofs.Ytlnpfeecaiecaaa
open Go.RowKit
set_option linter.unusedVariables false
set_option linter.unusedSimpArgs false
set_option maxRecDepth 20000
theorem block_lt_of_some {w : World} {g : Nat} {o : Obj} (h : w.heap[g]? = some o) : g < w.heap.size := by
  rcases Nat.lt_or_ge g w.heap.size with q | q
  · exact q
  · rw [Array.getElem?_eq_none q] at h; cases h
theorem Pair.fill {base Bc Br : Nat} {Q1 Q2 : (Nat → Prop) → List Tm → World → Prop} {L1 L2 : List Tm} {K : Nat → Prop} {w0 u : World} (g1 : Good base Q1) (g2 : Good base Q2) (h : Pair base Q1 Q2 L1 L2 (fun k => (K k ∨ k = Bc) ∨ k = Br) w0 u) (hb : base ≤ Br) (a b : Value) :
    Pair base Q1 Q2 L1 L2 K w0 ((u.setCell ⟨Br, 0, none⟩ a).setCell ⟨Br, 1, none⟩ b) :=
  ((h.setC g1 g2 (.inr rfl) hb 0 a).setC g1 g2 (.inr rfl) hb 1 b).less (fun k q => .inl (.inl q))
section
variable {base g : Nat} {most : Int} {Q1 Q2 : (Nat → Prop) → List Tm → World → Prop} {L L1 L2 : List Tm} {K : Nat → Prop} {w0 w : World}
set_option maxHeartbeats 400000 in
theorem Pair.csealR {L' : List Tm} {a e x ep : Int} (g2 : Good base Q2) (h : Pair base (RSq base g most) Q2 L L2 K w0 w) (hx : I64 x) (hf : putF L most (keyT x 1) = (a, e, L')) :
    Calls Try.prog 11 #[.pointer (some ⟨g, 0, none⟩), .agg #[.int .i64 x, .int .i64 ep]] w (TwoK (.int .i64 a) (.int .i64 e) (Pair base (RSq base g most) Q2 L' L2 K w0) K w) := by
  have HK := Lib.hid h.klt
  have HA := Lib.hid (h.below (RSq.good base g most) g2 (below_alloc w (.cells #[.int .i64 x, .int .i64 ep] 35 : Obj)))
  have HX := Lib.hid hx
  have HF := Lib.hid hf
  clear h hx hf
  go_enter Try.func11, Try.ntmps11
  go_wp2_with fail
  refine (HA.out.deriveR g2 HX.out u1 HF.out).mono ?_
  rintro e w1 ⟨rfl, h1, hk⟩
  have H1 := Lib.hid h1
  have HK1 : Hid (∀ k, K k → w1.heap[k]? = w.heap[k]?) := Lib.hid (fun k q => (hk k q).trans ((below_alloc w _).block k (HK.out k q)))
  clear h1 hk HA HF
  go_wp2_with fail
  go_ret2
  exact ⟨rfl, H1.out, HK1.out⟩
set_option maxHeartbeats 1000000 in
theorem Pair.cnextR {L' : List Tm} {x ep x' ep' e : Int} (g2 : Good base Q2) (h : Pair base (RSq base g most) Q2 L L2 K w0 w) (hx : I64 x) (hep : I64 ep) (hf : nextF L most ⟨x, ep⟩ = (⟨x', ep'⟩, e, L')) :
    Calls Try.prog 14 #[.pointer (some ⟨g, 0, none⟩), .agg #[.int .i64 x, .int .i64 ep]] w (TwoK (.agg #[.int .i64 x', .int .i64 ep']) (.int .i64 e) (Pair base (RSq base g most) Q2 L' L2 K w0) K w) := by
  obtain ⟨o0, ho0⟩ : ∃ o0, o0 = w.alloc (.cells #[.int .i64 x, .int .i64 ep] 35 : Obj) := ⟨_, rfl⟩
  obtain ⟨o1, ho1⟩ : ∃ o1, o1 = o0.alloc (.cells #[.int .i64 0, .int .i64 0] 35 : Obj) := ⟨_, rfl⟩
  obtain ⟨Bc, hBc⟩ : ∃ Bc, Bc = w.heap.size := ⟨_, rfl⟩
  obtain ⟨Br, hBr⟩ : ∃ Br, Br = o0.heap.size := ⟨_, rfl⟩
  have hcr : Bc + 1 = Br := by rw [hBr, ho0, hBc]; simp
  have HK := Lib.hid h.klt
  have HBB : Hid (base ≤ Br) := Lib.hid (by have := h.base_le; omega)
  have HBW : Hid (w.heap.size ≤ Br) := Lib.hid (by omega)
  have hb0 : o0.heap[Bc]? = some (.cells #[.int .i64 x, .int .i64 ep] 35 (0, 0)) := by rw [ho0, hBc]; exact heap_alloc_new w _
  have HBC1 : Hid (o1.heap[Bc]? = some (.cells #[.int .i64 x, .int .i64 ep] 35 (0, 0))) := Lib.hid (by
    rw [ho1]
    exact ((below_alloc o0 _).block _ (block_lt_of_some hb0)).trans hb0)
  have HBR1 : Hid (o1.heap[Br]? = some (.cells #[.int .i64 0, .int .i64 0] 35 (0, 0))) := Lib.hid (by rw [ho1, hBr]; exact heap_alloc_new o0 _)
  have HP1 : Hid (Pair base (RSq base g most) Q2 L L2 (fun k => (K k ∨ k = Bc) ∨ k = Br) w0 o1) := Lib.hid (by
    rw [ho1, hBr, hBc, ho0]
    exact (h.box (RSq.good base g most) g2 _).box (RSq.good base g most) g2 _)
  have HKK1 : Hid (∀ k, K k → o1.heap[k]? = w.heap[k]?) := Lib.hid (fun k q => by
    rw [ho1, ho0]
    exact ((below_alloc _ _).block k (by have := HK.out k q; simp; omega)).trans ((below_alloc w _).block k (HK.out k q)))
  have HO := Lib.hid (And.intro ho0 (And.intro hBc (And.intro ho1 hcr)))
  have HX := Lib.hid hx
  have HFI := Lib.hid (And.intro h.factsR.2.1 h.factsR.2.2)
  have bep := Go.bounds_i64 hep
  obtain ⟨bep1, bep2⟩ := bep
  clear ho0 ho1 hBc hBr hcr hb0 h hx hep
  cases hbad : badE ep with
  | true =>
    rw [next_lim hbad] at hf
    injection hf with h1 h2
    injection h1 with h3 h4
    injection h2 with h5 h6
    subst h3 h4 h5 h6
    by_cases hneg : ep < 0
    · clear hbad
      go_enter Try.func14, Try.ntmps14
      go_upto_region 1 with fail
      rw [← HO.out.1, ← HO.out.2.1, ← HO.out.2.2.1, HO.out.2.2.2]
      obtain ⟨r0, r1, q0, q1⟩ := cells2 HBC1.out
      obtain ⟨s0, s1, t0, t1⟩ := cells2 HBR1.out
      have hk9 := fill2 Br (.int .i64 0) (.int .i64 0) HBR1.out
      have HF9 : Hid (Pair base (RSq base g most) Q2 L L2 K w0 ((o1.setCell ⟨Br, 0, none⟩ (.int .i64 0)).setCell ⟨Br, 1, none⟩ (.int .i64 0))) := Lib.hid (HP1.out.fill (RSq.good base g most) g2 HBB.out _ _)
      have HK9 : Hid (∀ k, K k → ((o1.setCell ⟨Br, 0, none⟩ (.int .i64 0)).setCell ⟨Br, 1, none⟩ (.int .i64 0)).heap[k]? = w.heap[k]?) := Lib.hid (fun k q => (fill2_other Br _ _ (fun e => by have := HK.out k q; have := HBW.out; omega)).trans (HKK1.out k q))
      obtain ⟨c0, c1, _, _⟩ := cells2 hk9
      clear hk9
      go_wp2_with fail
      exact bodyPost_ret (v := .tuple #[.agg #[.int .i64 0, .int .i64 0], .int .i64 13]) (by simp [results, Try.results14, go_sem, c0, c1]) rfl ⟨rfl, HF9.out, HK9.out⟩
    · have hbig : 999 < ep := by simp [badE] at hbad; omega
      have n1 : decide (ep < 0) = false := decide_eq_false hneg
      clear hbad hneg
      go_enter Try.func14, Try.ntmps14
      go_upto_region 1 with fail
      rw [← HO.out.1, ← HO.out.2.1, ← HO.out.2.2.1, HO.out.2.2.2]
      obtain ⟨r0, r1, q0, q1⟩ := cells2 HBC1.out
      obtain ⟨s0, s1, t0, t1⟩ := cells2 HBR1.out
      have hk9 := fill2 Br (.int .i64 0) (.int .i64 0) HBR1.out
      have HF9 : Hid (Pair base (RSq base g most) Q2 L L2 K w0 ((o1.setCell ⟨Br, 0, none⟩ (.int .i64 0)).setCell ⟨Br, 1, none⟩ (.int .i64 0))) := Lib.hid (HP1.out.fill (RSq.good base g most) g2 HBB.out _ _)
      have HK9 : Hid (∀ k, K k → ((o1.setCell ⟨Br, 0, none⟩ (.int .i64 0)).setCell ⟨Br, 1, none⟩ (.int .i64 0)).heap[k]? = w.heap[k]?) := Lib.hid (fun k q => (fill2_other Br _ _ (fun e => by have := HK.out k q; have := HBW.out; omega)).trans (HKK1.out k q))
      obtain ⟨c0, c1, _, _⟩ := cells2 hk9
      clear hk9
      go_wp2_with fail
      exact bodyPost_ret (v := .tuple #[.agg #[.int .i64 0, .int .i64 0], .int .i64 13]) (by simp [results, Try.results14, go_sem, c0, c1]) rfl ⟨rfl, HF9.out, HK9.out⟩
  | false =>
    obtain ⟨hp0, hp9⟩ := bad_no hbad
    have n1 : decide (ep < 0) = false := decide_eq_false (by omega)
    have n2 : decide (999 < ep) = false := decide_eq_false (by omega)
    obtain ⟨a, f, M, hq⟩ : ∃ a f M, putF L most (keyT x 2) = (a, f, M) := ⟨_, _, _, rfl⟩
    have HQ := Lib.hid hq
    by_cases hf0 : f = 0
    · subst hf0
      rw [next_yes hbad hq] at hf
      injection hf with h1 h2
      injection h1 with h3 h4
      injection h2 with h5 h6
      subst h3 h5 h6
      obtain ⟨ep2, hep2⟩ : ∃ ep2, ep + 1 = ep2 := ⟨_, rfl⟩
      have hh4 : ep2 = ep' := by rw [← hep2]; exact h4
      subst hh4
      clear h4 hbad hq
      go_enter Try.func14, Try.ntmps14
      go_upto_region 1 with fail
      rw [← HO.out.1, ← HO.out.2.1, ← HO.out.2.2.1, HO.out.2.2.2]
      obtain ⟨r0, r1, q0, q1⟩ := cells2 HBC1.out
      obtain ⟨s0, s1, t0, t1⟩ := cells2 HBR1.out
      go_wp2_with fail
      refine (HP1.out.deriveR g2 HX.out u2 HQ.out).mono ?_
      rintro e w1 ⟨rfl, h1, hk⟩
      have HP2 := Lib.hid h1
      have HBC2 : Hid (w1.heap[Bc]? = some (.cells #[.int .i64 x, .int .i64 ep] 35 (0, 0))) := Lib.hid ((hk Bc (.inl (.inr rfl))).trans HBC1.out)
      have HBR2 : Hid (w1.heap[Br]? = some (.cells #[.int .i64 0, .int .i64 0] 35 (0, 0))) := Lib.hid ((hk Br (.inr rfl)).trans HBR1.out)
      have HKK2 : Hid (∀ k, K k → w1.heap[k]? = w.heap[k]?) := Lib.hid (fun k q => (hk k (.inl (.inl q))).trans (HKK1.out k q))
      clear h1 hk r0 r1 q0 q1 s0 s1 t0 t1
      obtain ⟨r0, r1, q0, q1⟩ := cells2 HBC2.out
      obtain ⟨s0, s1, t0, t1⟩ := cells2 HBR2.out
      have hk9 := fill2 Br (.int .i64 a) (.int .i64 ep2) HBR2.out
      have HF9 : Hid (Pair base (RSq base g most) Q2 M L2 K w0 ((w1.setCell ⟨Br, 0, none⟩ (.int .i64 a)).setCell ⟨Br, 1, none⟩ (.int .i64 ep2))) := Lib.hid (HP2.out.fill (RSq.good base g most) g2 HBB.out _ _)
      have HK9 : Hid (∀ k, K k → ((w1.setCell ⟨Br, 0, none⟩ (.int .i64 a)).setCell ⟨Br, 1, none⟩ (.int .i64 ep2)).heap[k]? = w.heap[k]?) := Lib.hid (fun k q => (fill2_other Br _ _ (fun e => by have := HK.out k q; have := HBW.out; omega)).trans (HKK2.out k q))
      obtain ⟨c0, c1, _, _⟩ := cells2 hk9
      clear hk9
      go_wp2_with fail
      exact bodyPost_ret (v := .tuple #[.agg #[.int .i64 a, .int .i64 ep2], .int .i64 0]) (by simp [results, Try.results14, go_sem, c0, c1]) rfl ⟨rfl, HF9.out, HK9.out⟩
    · have hne : (f != 0) = true := by simpa using hf0
      rw [next_no hbad hq hf0] at hf
      injection hf with h1 h2
      injection h1 with h3 h4
      injection h2 with h5 h6
      subst h3 h4 h5 h6
      clear hbad hq hf0
      go_enter Try.func14, Try.ntmps14
      go_upto_region 1 with fail
      rw [← HO.out.1, ← HO.out.2.1, ← HO.out.2.2.1, HO.out.2.2.2]
      obtain ⟨r0, r1, q0, q1⟩ := cells2 HBC1.out
      obtain ⟨s0, s1, t0, t1⟩ := cells2 HBR1.out
      go_wp2_with fail
      refine (HP1.out.deriveR g2 HX.out u2 HQ.out).mono ?_
      rintro e w1 ⟨rfl, h1, hk⟩
      have HP2 := Lib.hid h1
      have HBR2 : Hid (w1.heap[Br]? = some (.cells #[.int .i64 0, .int .i64 0] 35 (0, 0))) := Lib.hid ((hk Br (.inr rfl)).trans HBR1.out)
      have HKK2 : Hid (∀ k, K k → w1.heap[k]? = w.heap[k]?) := Lib.hid (fun k q => (hk k (.inl (.inl q))).trans (HKK1.out k q))
      clear h1 hk r0 r1 q0 q1 s0 s1 t0 t1
      obtain ⟨s0, s1, t0, t1⟩ := cells2 HBR2.out
      have hk9 := fill2 Br (.int .i64 0) (.int .i64 0) HBR2.out
      have HF9 : Hid (Pair base (RSq base g most) Q2 M L2 K w0 ((w1.setCell ⟨Br, 0, none⟩ (.int .i64 0)).setCell ⟨Br, 1, none⟩ (.int .i64 0))) := Lib.hid (HP2.out.fill (RSq.good base g most) g2 HBB.out _ _)
      have HK9 : Hid (∀ k, K k → ((w1.setCell ⟨Br, 0, none⟩ (.int .i64 0)).setCell ⟨Br, 1, none⟩ (.int .i64 0)).heap[k]? = w.heap[k]?) := Lib.hid (fun k q => (fill2_other Br _ _ (fun e => by have := HK.out k q; have := HBW.out; omega)).trans (HKK2.out k q))
      obtain ⟨c0, c1, _, _⟩ := cells2 hk9
      clear hk9
      go_wp2_with fail
      exact bodyPost_ret (v := .tuple #[.agg #[.int .i64 0, .int .i64 0], .int .i64 f]) (by simp [results, Try.results14, go_sem, c0, c1]) rfl ⟨rfl, HF9.out, HK9.out⟩
end
end Go.Proofs.Ytlnpfeecaiecaaa

namespace Go.Proofs.Ytlnpfeecaiecaaa
open Go.RowKit
set_option linter.unusedVariables false
set_option linter.unusedSimpArgs false
set_option maxRecDepth 20000
section
variable {base g : Nat} {most : Int} {Q1 Q2 : (Nat → Prop) → List Tm → World → Prop} {L L1 L2 : List Tm} {K : Nat → Prop} {w0 w : World}
set_option maxHeartbeats 400000 in
theorem Pair.csealP {L' : List Tm} {a e x ep : Int} (g2 : Good base Q2) (h : Pair base (PSq base g most) Q2 L L2 K w0 w) (hx : I64 x) (hf : putF L most (keyT x 1) = (a, e, L')) :
    Calls Try.prog 10 #[.agg #[.int .i64 x, .int .i64 ep], .pointer (some ⟨g, 0, none⟩)] w (TwoK (.int .i64 a) (.int .i64 e) (Pair base (PSq base g most) Q2 L' L2 K w0) K w) := by
  have HK := Lib.hid h.klt
  have HA := Lib.hid (h.below (PSq.good base g most) g2 (below_alloc w (.cells #[.int .i64 x, .int .i64 ep] 30 : Obj)))
  have HX := Lib.hid hx
  have HF := Lib.hid hf
  clear h hx hf
  go_enter Try.func10, Try.ntmps10
  go_wp2_with fail
  refine (HA.out.deriveP g2 HX.out u1 HF.out).mono ?_
  rintro e w1 ⟨rfl, h1, hk⟩
  have H1 := Lib.hid h1
  have HK1 : Hid (∀ k, K k → w1.heap[k]? = w.heap[k]?) := Lib.hid (fun k q => (hk k q).trans ((below_alloc w _).block k (HK.out k q)))
  clear h1 hk HA HF
  go_wp2_with fail
  go_ret2
  exact ⟨rfl, H1.out, HK1.out⟩
set_option maxHeartbeats 1000000 in
theorem Pair.cnextP {L' : List Tm} {x ep x' ep' e : Int} (g2 : Good base Q2) (h : Pair base (PSq base g most) Q2 L L2 K w0 w) (hx : I64 x) (hep : I64 ep) (hf : nextF L most ⟨x, ep⟩ = (⟨x', ep'⟩, e, L')) :
    Calls Try.prog 13 #[.agg #[.int .i64 x, .int .i64 ep], .pointer (some ⟨g, 0, none⟩)] w (TwoK (.agg #[.int .i64 x', .int .i64 ep']) (.int .i64 e) (Pair base (PSq base g most) Q2 L' L2 K w0) K w) := by
  obtain ⟨o0, ho0⟩ : ∃ o0, o0 = w.alloc (.cells #[.int .i64 x, .int .i64 ep] 30 : Obj) := ⟨_, rfl⟩
  obtain ⟨o1, ho1⟩ : ∃ o1, o1 = o0.alloc (.cells #[.int .i64 0, .int .i64 0] 30 : Obj) := ⟨_, rfl⟩
  obtain ⟨Bc, hBc⟩ : ∃ Bc, Bc = w.heap.size := ⟨_, rfl⟩
  obtain ⟨Br, hBr⟩ : ∃ Br, Br = o0.heap.size := ⟨_, rfl⟩
  have hcr : Bc + 1 = Br := by rw [hBr, ho0, hBc]; simp
  have HK := Lib.hid h.klt
  have HBB : Hid (base ≤ Br) := Lib.hid (by have := h.base_le; omega)
  have HBW : Hid (w.heap.size ≤ Br) := Lib.hid (by omega)
  have hb0 : o0.heap[Bc]? = some (.cells #[.int .i64 x, .int .i64 ep] 30 (0, 0)) := by rw [ho0, hBc]; exact heap_alloc_new w _
  have HBC1 : Hid (o1.heap[Bc]? = some (.cells #[.int .i64 x, .int .i64 ep] 30 (0, 0))) := Lib.hid (by
    rw [ho1]
    exact ((below_alloc o0 _).block _ (block_lt_of_some hb0)).trans hb0)
  have HBR1 : Hid (o1.heap[Br]? = some (.cells #[.int .i64 0, .int .i64 0] 30 (0, 0))) := Lib.hid (by rw [ho1, hBr]; exact heap_alloc_new o0 _)
  have HP1 : Hid (Pair base (PSq base g most) Q2 L L2 (fun k => (K k ∨ k = Bc) ∨ k = Br) w0 o1) := Lib.hid (by
    rw [ho1, hBr, hBc, ho0]
    exact (h.box (PSq.good base g most) g2 _).box (PSq.good base g most) g2 _)
  have HKK1 : Hid (∀ k, K k → o1.heap[k]? = w.heap[k]?) := Lib.hid (fun k q => by
    rw [ho1, ho0]
    exact ((below_alloc _ _).block k (by have := HK.out k q; simp; omega)).trans ((below_alloc w _).block k (HK.out k q)))
  have HO := Lib.hid (And.intro ho0 (And.intro hBc (And.intro ho1 hcr)))
  have HX := Lib.hid hx
  have HFI := Lib.hid (And.intro h.facts.2.1 h.facts.2.2)
  have bep := Go.bounds_i64 hep
  obtain ⟨bep1, bep2⟩ := bep
  clear ho0 ho1 hBc hBr hcr hb0 h hx hep
  cases hbad : badE ep with
  | true =>
    rw [next_lim hbad] at hf
    injection hf with h1 h2
    injection h1 with h3 h4
    injection h2 with h5 h6
    subst h3 h4 h5 h6
    by_cases hneg : ep < 0
    · clear hbad
      go_enter Try.func13, Try.ntmps13
      go_upto_region 1 with fail
      rw [← HO.out.1, ← HO.out.2.1, ← HO.out.2.2.1, HO.out.2.2.2]
      obtain ⟨r0, r1, q0, q1⟩ := cells2 HBC1.out
      obtain ⟨s0, s1, t0, t1⟩ := cells2 HBR1.out
      have hk9 := fill2 Br (.int .i64 0) (.int .i64 0) HBR1.out
      have HF9 : Hid (Pair base (PSq base g most) Q2 L L2 K w0 ((o1.setCell ⟨Br, 0, none⟩ (.int .i64 0)).setCell ⟨Br, 1, none⟩ (.int .i64 0))) := Lib.hid (HP1.out.fill (PSq.good base g most) g2 HBB.out _ _)
      have HK9 : Hid (∀ k, K k → ((o1.setCell ⟨Br, 0, none⟩ (.int .i64 0)).setCell ⟨Br, 1, none⟩ (.int .i64 0)).heap[k]? = w.heap[k]?) := Lib.hid (fun k q => (fill2_other Br _ _ (fun e => by have := HK.out k q; have := HBW.out; omega)).trans (HKK1.out k q))
      obtain ⟨c0, c1, _, _⟩ := cells2 hk9
      clear hk9
      go_wp2_with fail
      exact bodyPost_ret (v := .tuple #[.agg #[.int .i64 0, .int .i64 0], .int .i64 13]) (by simp [results, Try.results13, go_sem, c0, c1]) rfl ⟨rfl, HF9.out, HK9.out⟩
    · have hbig : 999 < ep := by simp [badE] at hbad; omega
      have n1 : decide (ep < 0) = false := decide_eq_false hneg
      clear hbad hneg
      go_enter Try.func13, Try.ntmps13
      go_upto_region 1 with fail
      rw [← HO.out.1, ← HO.out.2.1, ← HO.out.2.2.1, HO.out.2.2.2]
      obtain ⟨r0, r1, q0, q1⟩ := cells2 HBC1.out
      obtain ⟨s0, s1, t0, t1⟩ := cells2 HBR1.out
      have hk9 := fill2 Br (.int .i64 0) (.int .i64 0) HBR1.out
      have HF9 : Hid (Pair base (PSq base g most) Q2 L L2 K w0 ((o1.setCell ⟨Br, 0, none⟩ (.int .i64 0)).setCell ⟨Br, 1, none⟩ (.int .i64 0))) := Lib.hid (HP1.out.fill (PSq.good base g most) g2 HBB.out _ _)
      have HK9 : Hid (∀ k, K k → ((o1.setCell ⟨Br, 0, none⟩ (.int .i64 0)).setCell ⟨Br, 1, none⟩ (.int .i64 0)).heap[k]? = w.heap[k]?) := Lib.hid (fun k q => (fill2_other Br _ _ (fun e => by have := HK.out k q; have := HBW.out; omega)).trans (HKK1.out k q))
      obtain ⟨c0, c1, _, _⟩ := cells2 hk9
      clear hk9
      go_wp2_with fail
      exact bodyPost_ret (v := .tuple #[.agg #[.int .i64 0, .int .i64 0], .int .i64 13]) (by simp [results, Try.results13, go_sem, c0, c1]) rfl ⟨rfl, HF9.out, HK9.out⟩
  | false =>
    obtain ⟨hp0, hp9⟩ := bad_no hbad
    have n1 : decide (ep < 0) = false := decide_eq_false (by omega)
    have n2 : decide (999 < ep) = false := decide_eq_false (by omega)
    obtain ⟨a, f, M, hq⟩ : ∃ a f M, putF L most (keyT x 2) = (a, f, M) := ⟨_, _, _, rfl⟩
    have HQ := Lib.hid hq
    by_cases hf0 : f = 0
    · subst hf0
      rw [next_yes hbad hq] at hf
      injection hf with h1 h2
      injection h1 with h3 h4
      injection h2 with h5 h6
      subst h3 h5 h6
      obtain ⟨ep2, hep2⟩ : ∃ ep2, ep + 1 = ep2 := ⟨_, rfl⟩
      have hh4 : ep2 = ep' := by rw [← hep2]; exact h4
      subst hh4
      clear h4 hbad hq
      go_enter Try.func13, Try.ntmps13
      go_upto_region 1 with fail
      rw [← HO.out.1, ← HO.out.2.1, ← HO.out.2.2.1, HO.out.2.2.2]
      obtain ⟨r0, r1, q0, q1⟩ := cells2 HBC1.out
      obtain ⟨s0, s1, t0, t1⟩ := cells2 HBR1.out
      go_wp2_with fail
      refine (HP1.out.deriveP g2 HX.out u2 HQ.out).mono ?_
      rintro e w1 ⟨rfl, h1, hk⟩
      have HP2 := Lib.hid h1
      have HBC2 : Hid (w1.heap[Bc]? = some (.cells #[.int .i64 x, .int .i64 ep] 30 (0, 0))) := Lib.hid ((hk Bc (.inl (.inr rfl))).trans HBC1.out)
      have HBR2 : Hid (w1.heap[Br]? = some (.cells #[.int .i64 0, .int .i64 0] 30 (0, 0))) := Lib.hid ((hk Br (.inr rfl)).trans HBR1.out)
      have HKK2 : Hid (∀ k, K k → w1.heap[k]? = w.heap[k]?) := Lib.hid (fun k q => (hk k (.inl (.inl q))).trans (HKK1.out k q))
      clear h1 hk r0 r1 q0 q1 s0 s1 t0 t1
      obtain ⟨r0, r1, q0, q1⟩ := cells2 HBC2.out
      obtain ⟨s0, s1, t0, t1⟩ := cells2 HBR2.out
      have hk9 := fill2 Br (.int .i64 a) (.int .i64 ep2) HBR2.out
      have HF9 : Hid (Pair base (PSq base g most) Q2 M L2 K w0 ((w1.setCell ⟨Br, 0, none⟩ (.int .i64 a)).setCell ⟨Br, 1, none⟩ (.int .i64 ep2))) := Lib.hid (HP2.out.fill (PSq.good base g most) g2 HBB.out _ _)
      have HK9 : Hid (∀ k, K k → ((w1.setCell ⟨Br, 0, none⟩ (.int .i64 a)).setCell ⟨Br, 1, none⟩ (.int .i64 ep2)).heap[k]? = w.heap[k]?) := Lib.hid (fun k q => (fill2_other Br _ _ (fun e => by have := HK.out k q; have := HBW.out; omega)).trans (HKK2.out k q))
      obtain ⟨c0, c1, _, _⟩ := cells2 hk9
      clear hk9
      go_wp2_with fail
      exact bodyPost_ret (v := .tuple #[.agg #[.int .i64 a, .int .i64 ep2], .int .i64 0]) (by simp [results, Try.results13, go_sem, c0, c1]) rfl ⟨rfl, HF9.out, HK9.out⟩
    · have hne : (f != 0) = true := by simpa using hf0
      rw [next_no hbad hq hf0] at hf
      injection hf with h1 h2
      injection h1 with h3 h4
      injection h2 with h5 h6
      subst h3 h4 h5 h6
      clear hbad hq hf0
      go_enter Try.func13, Try.ntmps13
      go_upto_region 1 with fail
      rw [← HO.out.1, ← HO.out.2.1, ← HO.out.2.2.1, HO.out.2.2.2]
      obtain ⟨r0, r1, q0, q1⟩ := cells2 HBC1.out
      obtain ⟨s0, s1, t0, t1⟩ := cells2 HBR1.out
      go_wp2_with fail
      refine (HP1.out.deriveP g2 HX.out u2 HQ.out).mono ?_
      rintro e w1 ⟨rfl, h1, hk⟩
      have HP2 := Lib.hid h1
      have HBR2 : Hid (w1.heap[Br]? = some (.cells #[.int .i64 0, .int .i64 0] 30 (0, 0))) := Lib.hid ((hk Br (.inr rfl)).trans HBR1.out)
      have HKK2 : Hid (∀ k, K k → w1.heap[k]? = w.heap[k]?) := Lib.hid (fun k q => (hk k (.inl (.inl q))).trans (HKK1.out k q))
      clear h1 hk r0 r1 q0 q1 s0 s1 t0 t1
      obtain ⟨s0, s1, t0, t1⟩ := cells2 HBR2.out
      have hk9 := fill2 Br (.int .i64 0) (.int .i64 0) HBR2.out
      have HF9 : Hid (Pair base (PSq base g most) Q2 M L2 K w0 ((w1.setCell ⟨Br, 0, none⟩ (.int .i64 0)).setCell ⟨Br, 1, none⟩ (.int .i64 0))) := Lib.hid (HP2.out.fill (PSq.good base g most) g2 HBB.out _ _)
      have HK9 : Hid (∀ k, K k → ((w1.setCell ⟨Br, 0, none⟩ (.int .i64 0)).setCell ⟨Br, 1, none⟩ (.int .i64 0)).heap[k]? = w.heap[k]?) := Lib.hid (fun k q => (fill2_other Br _ _ (fun e => by have := HK.out k q; have := HBW.out; omega)).trans (HKK2.out k q))
      obtain ⟨c0, c1, _, _⟩ := cells2 hk9
      clear hk9
      go_wp2_with fail
      exact bodyPost_ret (v := .tuple #[.agg #[.int .i64 0, .int .i64 0], .int .i64 f]) (by simp [results, Try.results13, go_sem, c0, c1]) rfl ⟨rfl, HF9.out, HK9.out⟩
end
end Go.Proofs.Ytlnpfeecaiecaaa
