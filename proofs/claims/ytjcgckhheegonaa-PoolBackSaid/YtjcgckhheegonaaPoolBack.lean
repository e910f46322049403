/- PoolBack: a message whose parts all come in time, in whatever order, is put together with the last one, and not ahead of it, if there is room; then nothing of it is held. No condition. -/
import Derived.Test.YtjcgckhheegonaaRows
import Derived.Test.YtjcgckhheegonaaPoolX
import Derived.WalkKit
import Derived.ProofKit
import Derived.OpenShut
import Derived.ShutString
import Derived.ChangeOld
import Derived.Below
import Derived.Test.YtjcgckhheegonaaPoolI
import Derived.Test.YtjcgckhheegonaaFragO
import Derived.Test.YtjcgckhheegonaaArrs
namespace Go.Proofs.Ytjcgckhheegonaa.poolBack
open Go.ChangeShapes Go.WideShapes Go.ChangeAt Go.RowKit
open Go.ChangeMaps (open_string shut_string)
open Go.Proofs.Ytjcgckhheegonaa
set_option linter.unusedVariables false
set_option linter.unusedSimpArgs false
set_option maxRecDepth 20000

theorem own : ownKnob Try.prog.godebug = none := by kernel_rfl
theorem laidOut : laidOutB Try.prog = true := by kernel_rfl

/-- A row of integers that came in, or nil. -/
def IsRow (k : IntKind) (w : World) (a : Option Addr) (len cap : Nat) (zs : List Int) : Prop :=
  (a = none ∧ len = 0 ∧ cap = 0 ∧ zs = []) ∨
  ∃ x, a = some x ∧ len ≤ cap ∧ cap ≤ maxLen ∧ zs.length = cap ∧ (∀ i, i < zs.length → w.cell? (x.add i) = some (.int k (zs.getD i 0))) ∧ ∀ n ∈ zs, (Lit.int k n).wf = true
theorem slice_facts (A : ByteArray) (k : Nat) : ∃ p : ByteArray, min (A.size : Int) k = p.size ∧ p.size ≤ A.size ∧ p.size ≤ k ∧ A.extract 0 p.size = p := by
  rcases Nat.le_total A.size k with h | h
  · exact ⟨A, by omega, Nat.le_refl _, h, by simp⟩
  · have e : (A.extract 0 k).size = k := by simp only [ByteArray.size_extract]; omega
    exact ⟨A.extract 0 k, by omega, by omega, by omega, by rw [e]⟩
theorem fro_cell {F : Nat → Prop} {w : World} {g n c : Nat} {fs : List Fr} (h : Fro F w (.slice (some ⟨g, 0, none⟩) n c) fs) {j : Nat} (hj : j < fs.length) :
    w.cell? ⟨g, j * 4, none⟩ = some (.int .u64 (fs.getD j zeroF).id) ∧ w.cell? ⟨g, j * 4 + 1, none⟩ = some (.int .i64 (fs.getD j zeroF).ix) ∧ w.cell? ⟨g, j * 4 + 2, none⟩ = some (.int .i64 (fs.getD j zeroF).ct) ∧ w.cell? ⟨g, j * 4 + 3, none⟩ = some (.string (fs.getD j zeroF).s) := by
  obtain ⟨a, c', hv, hr⟩ := h.at
  injection hv with e1 _ _
  subst e1
  obtain ⟨_, _, b, off, hr⟩ := hr
  obtain ⟨e2, x0, x1, x2, x3⟩ := hr j hj
  injection e2 with e2
  injection e2 with e3 e4
  subst e3 e4
  simp only [Nat.zero_add] at x0 x1 x2 x3
  exact ⟨x0, x1, x2, x3⟩
theorem fro_new {F : Nat → Prop} {w1 w2 : World} {base : Nat} {v : Value} {fs : List Fr} (hr : OwnF 35 base v fs w1) (hn : ∀ k, F k → w1.heap.size ≤ k) (hb : Below w1.heap.size w1 w2) : Fro F w2 v fs := ⟨⟨base, hr.below hb⟩, fun k hk q => by
  have := (World.ownsRow.lt hr k hk).2
  have := hn k q
  omega⟩
theorem ints_plain {w : World} {a : Option Addr} {len cap : Nat} {zs : List Int} (h : IsRow .u8 w a len cap zs) : len ≤ cap ∧ cap ≤ maxLen ∧ ∃ b off, ∀ i, i < len → a = some ⟨b, off, none⟩ ∧ w.cell? ⟨b, off + i, none⟩ = some (.int .u8 (zs.getD i 0)) ∧ (Lit.int .u8 (zs.getD i 0)).wf = true := by
  rcases h with ⟨rfl, rfl, rfl, rfl⟩ | ⟨x, rfl, hl, hm, hz, hc, hw⟩
  · exact ⟨Nat.le_refl _, Nat.zero_le _, 0, 0, fun i hi => absurd hi (Nat.not_lt_zero _)⟩
  · by_cases hp : 0 < zs.length
    · obtain ⟨b, off, spot⟩ := x
      have hspot : spot = none := by simpa [Addr.add] using World.cell?_spot (hc 0 hp)
      subst hspot
      refine ⟨hl, hm, b, off, fun i hi => ⟨rfl, ?_, ?_⟩⟩
      · have := hc i (by omega)
        have hadd : (⟨b, off, none⟩ : Addr).add i = ⟨b, off + i, none⟩ := by
          unfold Addr.add
          split
          · rename_i h; subst h; rfl
          · rfl
        rw [hadd] at this
        exact this
      · refine hw _ ?_
        rw [List.getD_eq_getElem?_getD, List.getElem?_eq_getElem (by omega : i < zs.length)]
        exact List.getElem_mem _
    · exact ⟨hl, hm, 0, 0, fun i hi => by omega⟩
def oN : ByteArray := ⟨#[111, 116, 104, 101, 114, 32, 111, 110, 101]⟩
def o0 : Fr := ⟨4, 0, 2, ⟨#[111, 116, 104, 101, 114]⟩⟩
def o1 : Fr := ⟨4, 1, 2, ⟨#[32, 111, 110, 101]⟩⟩
def bk (cur : List Ms) : Pl := ⟨[⟨[o0], 0⟩] ++ cur, 2, 2000⟩
theorem cut_o : cutF ⟨#[111, 116, 104, 101, 114, 32, 111, 110, 101]⟩ 4 5 = ([o0, o1], 0) := by kernel_rfl
theorem ad_o0 : addP o0 0 ⟨[], 2, 2000⟩ = (bk [], ⟨#[]⟩, false, 0) := by kernel_rfl
theorem ad_o1 : addP o1 50 (bk []) = (⟨[], 2, 2000⟩, ⟨#[111, 116, 104, 101, 114, 32, 111, 110, 101]⟩, true, 0) := by kernel_rfl
theorem step_s {A : ByteArray} {k m j : Nat} {ps : List Fr} (h : Shuf A 3 k m ps) (hj : j < m) (hm : m ≤ 16) (hA : A.size ≤ 1000) : addP (ps.getD j zeroF) (j : Int) (bk (shalf ps j 0)) = (bk (shalf ps (j + 1) 0), (if j + 1 = m then A else ⟨#[]⟩), decide (j + 1 = m), 0) :=
  shuf_step h hj (pre := [⟨[o0], 0⟩]) (by omega) (fun x hx => by simp only [List.mem_singleton] at hx; subst hx; decide) (fun x hx => by simp only [List.mem_singleton] at hx; subst hx; simp [oldM]; omega) (fun e => by subst e; rfl) (by decide) (by
    have : heldM [⟨[o0], 0⟩] = 5 := rfl
    rw [this]; omega)
theorem told {s : ByteArray} {m j : Nat} {now : Int} {P P' : Pl} {f : Fr} (h : addP f now P = (P', (if j + 1 = m then s else ⟨#[]⟩), decide (j + 1 = m), 0)) : (j + 1 = m → addP f now P = (P', s, true, 0)) ∧ (j + 1 ≠ m → addP f now P = (P', ⟨#[]⟩, false, 0)) :=
  ⟨fun e => by rw [h, if_pos e, decide_eq_true e], fun e => by rw [h, if_neg e, decide_eq_false e]⟩
/-- The pool beside the row that is shuffled, and another row. -/
structure Py (w0 : World) (F : Nat → Prop) (w : World) (p : Nat) (P : Pl) (g m c : Nat) (u : Value) (ps gs : List Fr) : Prop where
  al : PlS w0 F w p P
  row : OwnF 35 w0.heap.size (.slice (some ⟨g, 0, none⟩) m c) ps w
  off : ¬ F g
  two : Fro F w u gs
  apart : ∀ k, u.ownBlock = some k → k ≠ g
section
variable {w0 w w' : World} {F F' : Nat → Prop} {p g m c : Nat} {P P' : Pl} {u : Value} {ps gs : List Fr}
theorem py_px (h : Py w0 F w p P g m c u ps gs) : Px w0 F w p P (.slice (some ⟨g, 0, none⟩) m c) u ps gs := ⟨h.al, ⟨⟨_, h.row⟩, fun k hk q => by simp only [Value.ownBlock, Option.some.injEq] at hk; exact h.off (hk ▸ q)⟩, h.two⟩
theorem py_below (h : Py w0 F w p P g m c u ps gs) (hb : Below w.heap.size w w') : Py w0 F w' p P g m c u ps gs := ⟨h.al.below hb, h.row.below hb, h.off, h.two.below hb, h.apart⟩
theorem py_lt (h : Py w0 F w p P g m c u ps gs) : g < w.heap.size ∧ w0.heap.size ≤ g := by
  have := World.ownsRow.lt h.row g rfl
  exact ⟨this.2, this.1⟩
theorem py_set (h : Py w0 F w p P g m c u ps gs) {i : Nat} (hi : i < ps.length) (f : Fr) : Py w0 F ((((w.setCell ⟨g, i * 4, none⟩ (.int .u64 f.id)).setCell ⟨g, i * 4 + 1, none⟩ (.int .i64 f.ix)).setCell ⟨g, i * 4 + 2, none⟩ (.int .i64 f.ct)).setCell ⟨g, i * 4 + 3, none⟩ (.string f.s)) p P g m c u (ps.set i f) gs := by
  have hc : Chg (fun k => k = g) w ((((w.setCell ⟨g, i * 4, none⟩ (.int .u64 f.id)).setCell ⟨g, i * 4 + 1, none⟩ (.int .i64 f.ix)).setCell ⟨g, i * 4 + 2, none⟩ (.int .i64 f.ct)).setCell ⟨g, i * 4 + 3, none⟩ (.string f.s)) :=
    (((Chg.setCell _ _ _ _).trans (Chg.setCell _ _ _ _)).trans (Chg.setCell _ _ _ _)).trans (Chg.setCell _ _ _ _)
  obtain ⟨base, hr⟩ := h.two.row
  exact ⟨⟨h.al.al.keep hc (fun k hk e => h.off (e ▸ hk)), h.al.own, h.al.low.trans (hc.below (fun k e => by rw [e]; exact (py_lt h).2) h.al.low.size)⟩, h.row.setF hi f, h.off, ⟨⟨base, hr.chg hc h.apart⟩, h.two.off⟩, h.apart⟩
theorem py_four (h : Py w0 F w p P g m c u ps gs) {i : Nat} (hi : i < ps.length) {f : Fr} (hf : ps.getD i zeroF = f) : (w.cell? ⟨g, i * 4, none⟩ = some (.int .u64 f.id) ∧ w.cell? ⟨g, i * 4 + 1, none⟩ = some (.int .i64 f.ix) ∧ w.cell? ⟨g, i * 4 + 2, none⟩ = some (.int .i64 f.ct) ∧ w.cell? ⟨g, i * 4 + 3, none⟩ = some (.string f.s)) ∧ w.frozen? ⟨g, i * 4, none⟩ = false ∧ w.frozen? ⟨g, i * 4 + 1, none⟩ = false ∧ w.frozen? ⟨g, i * 4 + 2, none⟩ = false ∧ w.frozen? ⟨g, i * 4 + 3, none⟩ = false := by
  subst hf
  exact h.row.four hi
theorem py_box (h : Py w0 F w p P g m c u ps gs) (cs : Array Value) : Py w0 F (w.alloc (.cells cs 35)) p P g m c u ps gs ∧ (w.alloc (.cells cs 35)).heap[w.heap.size]? = some (.cells cs 35 (0, 0)) ∧ w.heap.size ≠ g := ⟨py_below h (below_alloc w _), heap_alloc_new w _, by have := (py_lt h).1; omega⟩
theorem box_set {B i : Nat} {cs : Array Value} (hb : w.heap[B]? = some (.cells cs 35 (0, 0))) (hne : B ≠ g) (f : Fr) : ((((w.setCell ⟨g, i * 4, none⟩ (.int .u64 f.id)).setCell ⟨g, i * 4 + 1, none⟩ (.int .i64 f.ix)).setCell ⟨g, i * 4 + 2, none⟩ (.int .i64 f.ct)).setCell ⟨g, i * 4 + 3, none⟩ (.string f.s)).heap[B]? = some (.cells cs 35 (0, 0)) := by
  have hc : Chg (fun k => k = g) w ((((w.setCell ⟨g, i * 4, none⟩ (.int .u64 f.id)).setCell ⟨g, i * 4 + 1, none⟩ (.int .i64 f.ix)).setCell ⟨g, i * 4 + 2, none⟩ (.int .i64 f.ct)).setCell ⟨g, i * 4 + 3, none⟩ (.string f.s)) :=
    (((Chg.setCell _ _ _ _).trans (Chg.setCell _ _ _ _)).trans (Chg.setCell _ _ _ _)).trans (Chg.setCell _ _ _ _)
  exact hc.blk hb hne
end
theorem box_4 {W : World} {B : Nat} {a b c d : Value} {T : TypeId} (h : W.heap[B]? = some (.cells #[a, b, c, d] T (0, 0))) : W.cell? ⟨B, 0, none⟩ = some a ∧ W.cell? ⟨B, 1, none⟩ = some b ∧ W.cell? ⟨B, 2, none⟩ = some c ∧ W.cell? ⟨B, 3, none⟩ = some d := by
  refine ⟨?_, ?_, ?_, ?_⟩ <;> simp [World.cell?, h]
theorem frag_eta (f : Fr) : ∃ a b c s, f = ⟨a, b, c, s⟩ := ⟨f.id, f.ix, f.ct, f.s, rfl⟩
theorem row_low {t : TypeId} {base base2 g n c : Nat} {fs : List Fr} {w : World} (h : OwnF t base (.slice (some ⟨g, 0, none⟩) n c) fs w) (hb : base2 ≤ base) : OwnF t base2 (.slice (some ⟨g, 0, none⟩) n c) fs w := by
  have h' : w.ownsRow base t 4 (.slice (some ⟨g, 0, none⟩) n c) fs.length (cellsF fs) := h
  refine ⟨h'.1, ?_⟩
  rcases h'.2 with ⟨hv, _⟩ | ⟨g', cap, cur, hv, hg, rest⟩
  · cases hv
  · exact .inr ⟨g', cap, cur, hv, Nat.le_trans hb hg, rest⟩
set_option maxHeartbeats 4000000 in
set_option maxRecDepth 100000 in
theorem walk0 (a0 A : ByteArray) (a1 : Int) (a2 : Option Addr) (l2 c2 : Nat) (z2 : List Int) (k : Nat) (w : World) (y10 : 0 ≤ a1) (y11 : a1 ≤ 255) (m2 : min (a0.size : Int) 1000 = A.size) (u1 : A.size ≤ a0.size) (v1 : A.size ≤ 1000) (y1 : a0.extract 0 A.size = A) (w0 : a0.size ≤ maxLen) (hk : 1 + a1 = (k : Int)) (hrow : IsRow .u8 w a2 l2 c2 z2) (e0 : Hid (A.size = 0)) :
    Calls Try.prog 5 #[.string a0, .int .u8 a1, .slice a2 l2 c2] w fun e w' => e = .returned (.bool true) ∧ Below w.heap.size w w' := by
  unfold maxLen at w0
  have hs8 : A.size ≤ 1000000 := by omega
  have n0 : (if (1000 : Int) < (a0.size : Int) then (1000 : Int) else (a0.size : Int)) = (A.size : Int) := by split <;> omega
  have n3 : (if (a0.size : Int) < (1000 : Int) then (a0.size : Int) else (1000 : Int)) = (A.size : Int) := by split <;> omega
  have HCF : Hid (cutF A 3 (k : Int) = (([] : List Fr), 1)) := Lib.hid (cut_none e0.out)
  go_enter Try.func5, Try.ntmps5
  go_wp2_with fail
  refine (cut_x A 3 (k : Int) _ hs8 ([] : List Fr) 1 1 HCF.out rfl).mono ?_
  rintro e wa ⟨v, rfl, ho, hb⟩
  have HBA := Lib.hid hb
  clear hb
  clear ho
  go_wp2_with fail
  refine (new_s 2 2000 w wa HBA.out ⟨by decide, by decide, by decide, by decide⟩).mono ?_
  rintro e wb ⟨p, F, rfl, ha, hn, hb⟩
  have HA := Lib.hid ha
  clear ha hn hb
  go_wp2_with fail
  refine (fixed_any _).mono ?_
  rintro e wz ⟨rfl, hb⟩
  have HZ := Lib.hid (HA.out.below hb)
  clear hb
  go_wp2_with fail
  go_ret
  exact ⟨rfl, HZ.out.low⟩
set_option maxHeartbeats 4000000 in
set_option maxRecDepth 100000 in
theorem walk4 (a0 A : ByteArray) (a1 : Int) (a2 : Option Addr) (l2 c2 : Nat) (z2 : List Int) (k : Nat) (w : World) (y10 : 0 ≤ a1) (y11 : a1 ≤ 255) (m2 : min (a0.size : Int) 1000 = A.size) (u1 : A.size ≤ a0.size) (v1 : A.size ≤ 1000) (y1 : a0.extract 0 A.size = A) (w0 : a0.size ≤ maxLen) (hk : 1 + a1 = (k : Int)) (hrow : IsRow .u8 w a2 l2 c2 z2) (HE : Hid (Good A 3 k ∧ A.size ≠ 0 ∧ 16 < many A.size k)) :
    Calls Try.prog 5 #[.string a0, .int .u8 a1, .slice a2 l2 c2] w fun e w' => e = .returned (.bool true) ∧ Below w.heap.size w w' := by
  unfold maxLen at w0
  have hs8 : A.size ≤ 1000000 := by omega
  have n0 : (if (1000 : Int) < (a0.size : Int) then (1000 : Int) else (a0.size : Int)) = (A.size : Int) := by split <;> omega
  have n3 : (if (a0.size : Int) < (1000 : Int) then (a0.size : Int) else (1000 : Int)) = (A.size : Int) := by split <;> omega
  have HCF : Hid (cutF A 3 (k : Int) = (([] : List Fr), 4)) := Lib.hid (cut_many HE.out.1 HE.out.2.1 HE.out.2.2)
  go_enter Try.func5, Try.ntmps5
  go_wp2_with fail
  refine (cut_x A 3 (k : Int) _ hs8 ([] : List Fr) 4 4 HCF.out rfl).mono ?_
  rintro e wa ⟨v, rfl, ho, hb⟩
  have HBA := Lib.hid hb
  clear hb
  clear ho
  go_wp2_with fail
  refine (new_s 2 2000 w wa HBA.out ⟨by decide, by decide, by decide, by decide⟩).mono ?_
  rintro e wb ⟨p, F, rfl, ha, hn, hb⟩
  have HA := Lib.hid ha
  clear ha hn hb
  go_wp2_with fail
  refine (fixed_any _).mono ?_
  rintro e wz ⟨rfl, hb⟩
  have HZ := Lib.hid (HA.out.below hb)
  clear hb
  go_wp2_with fail
  go_ret
  exact ⟨rfl, HZ.out.low⟩
set_option maxHeartbeats 4000000 in
set_option maxRecDepth 100000 in
theorem walkP (a0 A : ByteArray) (a1 : Int) (a2 : Option Addr) (l2 c2 : Nat) (z2 : List Int) (k : Nat) (w : World) (y10 : 0 ≤ a1) (y11 : a1 ≤ 255) (m2 : min (a0.size : Int) 1000 = A.size) (u1 : A.size ≤ a0.size) (v1 : A.size ≤ 1000) (y1 : a0.extract 0 A.size = A) (w0 : a0.size ≤ maxLen) (hk : 1 + a1 = (k : Int)) (hrow : IsRow .u8 w a2 l2 c2 z2) (m : Nat) (HC : Hid (Cutd A 3 k m)) :
    Calls Try.prog 5 #[.string a0, .int .u8 a1, .slice a2 l2 c2] w fun e w' => e = .returned (.bool true) ∧ Below w.heap.size w w' := by
  unfold maxLen at w0
  have hs8 : A.size ≤ 1000000 := by omega
  have n0 : (if (1000 : Int) < (a0.size : Int) then (1000 : Int) else (a0.size : Int)) = (A.size : Int) := by split <;> omega
  have n3 : (if (a0.size : Int) < (1000 : Int) then (a0.size : Int) else (1000 : Int)) = (A.size : Int) := by split <;> omega
  have HCF : Hid (cutF A 3 (k : Int) = ((parts A 3 k m), 0)) := Lib.hid (by rw [← HC.out.hm]; exact cut_parts HC.out.toGood HC.out.s1 (by have := HC.out.m2; have := HC.out.hm; omega))
  go_enter Try.func5, Try.ntmps5
  go_wp2_with fail
  refine (cut_x A 3 (k : Int) _ hs8 (parts A 3 k m) 0 0 HCF.out rfl).mono ?_
  rintro e wa ⟨v, rfl, ho, hb⟩
  have HBA := Lib.hid hb
  have HBA_size : w.heap.size ≤ w.heap.size := Nat.le_refl _
  clear hb
  obtain ⟨g, c, hv⟩ := ho.form (by intro q; have h9 := parts_len A 3 k m; rw [q] at h9; simp at h9; have := HC.out.m1; omega)
  rw [parts_len] at hv
  subst hv
  go_wp2_with fail
  refine (new_s 2 2000 w wa HBA.out ⟨by decide, by decide, by decide, by decide⟩).mono ?_
  rintro e wb ⟨p, F, rfl, ha, hn, hb⟩
  have HA := Lib.hid ha
  have HO := Lib.hid (ho.below hb)
  have HNF : Hid (¬ F g) := Lib.hid (fun q => by have h8 := hn g q; have h9 := (World.ownsRow.lt ho g rfl).2; omega)
  have hcap := (Fro.cap (F := F) (g := g) (fs := parts A 3 k m) ⟨⟨_, HO.out⟩, fun k hk q => by simp only [Value.ownBlock, Option.some.injEq] at hk; exact HNF.out (hk ▸ q)⟩ (by rw [parts_len]))
  obtain ⟨hc1, hc2⟩ := hcap
  have HLOW := Lib.hid HBA_size
  clear ha hn hb ho HBA HCF n0 n3 hk m2 u1 y1 w0 hs8
  go_wp2_with fail
  refine (cut_x ⟨#[111, 116, 104, 101, 114, 32, 111, 110, 101]⟩ 4 5 _ (by decide) [o0, o1] 0 0 cut_o rfl).mono ?_
  rintro e wc ⟨v, rfl, ho, hb⟩
  obtain ⟨gu, cu, hv⟩ := ho.form (by simp)
  have hv' : v = .slice (some ⟨gu, 0, none⟩) 2 cu := hv
  subst hv'
  have HX : Hid (Py w F wc p ⟨[], 2, 2000⟩ g m c (.slice (some ⟨gu, 0, none⟩) 2 cu) (parts A 3 k m) [o0, o1]) := Lib.hid ⟨HA.out.below hb, row_low (HO.out.below hb) HLOW.out, HNF.out, Fro.new HA.out.al ho, fun k hk e => by
    have h8 := (World.ownsRow.lt ho k hk).1
    have h9 := (World.ownsRow.lt HO.out g rfl).2
    omega⟩
  have hcu := (Fro.new HA.out.al ho).cap rfl
  obtain ⟨hcu1, hcu2⟩ := hcu
  have hcu3 : (2 : Int) ≤ cu := by omega
  clear hb ho hv HA HO HNF hcu1
  have HV1 := Lib.hid v1
  have hm16 := HC.out.m2
  obtain ⟨hr1, hr2, b, off, hrr⟩ := ints_plain hrow
  have hr3 : l2 ≤ 9223372036854775807 := by unfold maxLen at hr2; omega
  have HRR := Lib.hid hrr
  clear v1 hrow hrr hr1 hr2
  have hm17 : (m : Int) ≤ 16 := by omega
  have hm18 : (1 : Int) ≤ (m : Int) := by have := HC.out.m1; omega
  have i2 : ((m : Int) == 0) = false := by simp; omega
  have i3 : (m : Int) ≠ 0 := by omega
  go_wp2_with fail
  go_loopw [13] (fun i wr => ∃ (j : Nat) (ps : List Fr), j ≤ m ∧ i = .int .i64 (j : Nat) ∧ Shuf A 3 k m ps ∧ Hid (Py w F wr p ⟨[], 2, 2000⟩ g m c (.slice (some ⟨gu, 0, none⟩) 2 cu) ps [o0, o1])) (fun i _ => m - (intOf i).toNat)
  case atStart => exact ⟨0, parts A 3 k m, Nat.zero_le _, rfl, Shuf.start HC.out, HX⟩
  case round =>
    clear HX
    obtain ⟨j, ps, hj, rfl, hsh, HX⟩ := hrel
    have HSH := Lib.hid hsh
    clear hsh
    by_cases hjl : j < l2
    · have a1 : (j : Int) < (l2 : Int) := by omega
      by_cases hjm : j < m
      · have a2' : (j : Int) < (m : Int) := by omega
        have HJM := Lib.hid hjm
        obtain ⟨e0, x0, x1⟩ := HRR.out j hjl
        subst e0
        have x0' := (HX.out.al.low.cell (block_lt_of_cell x0)).trans x0
        obtain ⟨o, ho⟩ : ∃ o, z2.getD j 0 = o := ⟨_, rfl⟩
        rw [ho] at x0' x1
        obtain ⟨y0, y1⟩ := Go.bounds_u8 x1
        obtain ⟨q, hq⟩ : ∃ q : Nat, o.tmod (m : Int) = (q : Int) := ⟨(o.tmod (m : Int)).toNat, by have := Int.tmod_nonneg (m : Int) y0; omega⟩
        have hqm : q < m := by have := Int.tmod_lt_of_pos o (b := (m : Int)) (by omega); omega
        have HQM := Lib.hid hqm
        have q1 : (q : Int) < (m : Int) := by omega
        have q0 : (0 : Int) ≤ (q : Int) := by omega
        obtain ⟨fa, fb, fc, fs, hfj⟩ := frag_eta (ps.getD j zeroF)
        obtain ⟨ka, kb, kc, ks, hfk⟩ := frag_eta (ps.getD q zeroF)
        have HFJ := Lib.hid hfj
        have HFK := Lib.hid hfk
        obtain ⟨⟨c0, c1, c2', c3⟩, f0, f1, f2, f3⟩ := py_four HX.out (i := j) (by rw [HSH.out.len]; exact hjm) hfj
        simp only at c0 c1 c2' c3
        clear x0 x1 ho hfj hfk hqm hjm hjl hj
        go_upto_region 12 with fail
        obtain ⟨hx1, hbx1, hne1⟩ := py_box HX.out #[.int .u64 fa, .int .i64 fb, .int .i64 fc, .string fs]
        have HX1 := Lib.hid hx1
        have HBX1 := Lib.hid hbx1
        have HNE1 := Lib.hid hne1
        clear hx1 hbx1 hne1 c0 c1 c2' c3 f0 f1 f2 f3 x0'
        generalize wr.alloc (.cells #[.int .u64 fa, .int .i64 fb, .int .i64 fc, .string fs] 35) = w1 at HX1 HBX1 ⊢
        generalize wr.heap.size = B at HBX1 HNE1 ⊢
        obtain ⟨⟨c0, c1, c2', c3⟩, f0, f1, f2, f3⟩ := py_four HX1.out (i := q) (by rw [HSH.out.len]; exact HQM.out) HFK.out
        obtain ⟨⟨d0, d1, d2, d3⟩, g0, g1, g2, g3⟩ := py_four HX1.out (i := j) (by rw [HSH.out.len]; exact HJM.out) HFJ.out
        simp only at c0 c1 c2' c3 d0 d1 d2 d3
        go_upto_region 13 with fail
        have HX2 := Lib.hid (py_set HX1.out (i := j) (by rw [HSH.out.len]; exact HJM.out) ⟨ka, kb, kc, ks⟩)
        have HBX2 := Lib.hid (box_set (i := j) HBX1.out HNE1.out ⟨ka, kb, kc, ks⟩)
        simp only at HX2 HBX2
        clear c0 c1 c2' c3 d0 d1 d2 d3 f0 f1 f2 f3 g0 g1 g2 g3
        generalize (((w1.setCell ⟨g, j * 4, none⟩ (.int .u64 ka)).setCell ⟨g, j * 4 + 1, none⟩ (.int .i64 kb)).setCell ⟨g, j * 4 + 2, none⟩ (.int .i64 kc)).setCell ⟨g, j * 4 + 3, none⟩ (.string ks) = w2 at HX2 HBX2 ⊢
        obtain ⟨⟨d0, d1, d2, d3⟩, g0, g1, g2, g3⟩ := py_four HX2.out (i := q) (by rw [List.length_set, HSH.out.len]; exact HQM.out) rfl
        obtain ⟨b0, b1, b2, b3⟩ := box_4 HBX2.out
        go_wp2_with fail
        have HX3 := Lib.hid (py_set HX2.out (i := q) (by rw [List.length_set, HSH.out.len]; exact HQM.out) ⟨fa, fb, fc, fs⟩)
        simp only at HX3
        clear d0 d1 d2 d3 g0 g1 g2 g3 b0 b1 b2 b3
        go_roundw
        case rel => exact ⟨j + 1, _, HJM.out, by go_num, (by have h9 := HSH.out.swap HJM.out HQM.out; rw [HFJ.out, HFK.out] at h9; exact h9), HX3⟩
        case measure => have := HJM.out; simp [intOf]; omega
      · have a2n : ¬ (j : Int) < (m : Int) := by omega
        clear hjl hjm
        clear hj
        obtain ⟨r0, r1, r2, r3, _, _, _, _⟩ := two_at HX.out.two
        simp only [o0, o1] at r0 r1 r2 r3
        go_wp2_with fail
        clear r0 r1 r2 r3
        refine (add_x (py_px HX.out) o0 0 #[.int .u64 4, .int .i64 0, .int .i64 2, .string ⟨#[111, 116, 104, 101, 114]⟩] (bk []) ⟨#[]⟩ false 0 0 (by decide) (wf_of (by decide)) ⟨by decide, by decide⟩ rfl ad_o0 rfl).mono ?_
        rintro e wd ⟨F1, rfl, hx⟩
        have HX1 := Lib.hid hx
        clear hx HX
        go_wp2_with fail
        go_loopw [16] (fun i wr => ∃ (j : Nat) (F : Nat → Prop), j ≤ m ∧ i = .int .i64 (j : Nat) ∧ Hid (Px w F wr p (bk (shalf ps j 0)) (.slice (some ⟨g, 0, none⟩) m c) (.slice (some ⟨gu, 0, none⟩) 2 cu) ps [o0, o1])) (fun i _ => m - (intOf i).toNat)
        case atStart => exact ⟨0, F1, Nat.zero_le _, rfl, HX1⟩
        case round =>
          clear HX1
          obtain ⟨i, F2, hi, rfl, HX⟩ := hrel
          by_cases him : i < m
          · have b1 : (i : Int) < (m : Int) := by omega
            have iwj : IntKind.u64.wrap (i : Int) = (i : Int) := wrap_u64 (by omega) (by omega)
            obtain ⟨fa, fb, fc, fs, hfj⟩ := frag_eta (ps.getD i zeroF)
            have hcj := fro_cell HX.out.one (j := i) (by rw [HSH.out.len]; exact him)
            rw [hfj] at hcj
            obtain ⟨r0, r1, r2, r3⟩ := hcj
            have had := step_s HSH.out him hm16 HV1.out
            have hof := (HSH.out.of (HSH.out.at him)).1
            rw [hfj] at had hof
            have HW : Hid (fs.size ≤ 1000000 ∧ (⟨fa, fb, fc, fs⟩ : Fr).Wf ∧ U64 (i : Int)) := Lib.hid ⟨by have := rightF_iff.1 hof; simp only at this; omega, right_wf hof, ⟨by omega, by omega⟩⟩
            have HIM := Lib.hid him
            have tA : (A.toList == A.toList) = true := by simp
            clear hfj hof
            by_cases hl : i + 1 = m
            · have HAD := Lib.hid ((told had).1 hl)
              have q1 : ((i : Int) + 1 == (m : Int)) = true := by rw [beq_iff_eq]; omega
              have q2 : (i : Int) + 1 = (m : Int) := by omega
              have q3 : decide ((i : Int) + 1 = (m : Int)) = true := decide_eq_true (by omega)
              clear had hl him hi
              go_wp2_with fail
              clear r0 r1 r2 r3
              refine (add_x HX.out ⟨fa, fb, fc, fs⟩ (i : Int) _ _ _ _ _ 0 HW.out.1 HW.out.2.1 HW.out.2.2 rfl HAD.out rfl).mono ?_
              rintro e we ⟨F3, rfl, hx⟩
              have HX2 := Lib.hid hx
              clear hx
              go_wp2_with fail
              go_roundw
              case rel => exact ⟨i + 1, F3, HIM.out, by go_num, HX2⟩
              case measure => have := HIM.out; simp [intOf]; omega
            · have HAD := Lib.hid ((told had).2 hl)
              have q1 : ((i : Int) + 1 == (m : Int)) = false := by simp; omega
              have q2 : ¬ (i : Int) + 1 = (m : Int) := by omega
              have q3 : decide ((i : Int) + 1 = (m : Int)) = false := decide_eq_false (by omega)
              clear had hl him hi
              go_wp2_with fail
              clear r0 r1 r2 r3
              refine (add_x HX.out ⟨fa, fb, fc, fs⟩ (i : Int) _ _ _ _ _ 0 HW.out.1 HW.out.2.1 HW.out.2.2 rfl HAD.out rfl).mono ?_
              rintro e we ⟨F3, rfl, hx⟩
              have HX2 := Lib.hid hx
              clear hx
              go_wp2_with fail
              go_roundw
              case rel => exact ⟨i + 1, F3, HIM.out, by go_num, HX2⟩
              case measure => have := HIM.out; simp [intOf]; omega
          · obtain rfl : i = m := by omega
            have t0 : decide (i < i) = false := decide_eq_false (Nat.lt_irrefl _)
            have hnil : shalf ps i 0 = [] := if_neg (by rw [HSH.out.len]; omega)
            rw [hnil] at HX
            clear hnil hi him
            go_wp2_with fail
            refine (held_x HX.out 1 5 rfl rfl).mono ?_
            rintro e wd2 ⟨rfl, hx⟩
            have HX2 := Lib.hid hx
            clear hx
            obtain ⟨_, _, _, _, r0, r1, r2, r3⟩ := two_at HX2.out.two
            simp only [o0, o1] at r0 r1 r2 r3
            go_wp2_with fail
            clear r0 r1 r2 r3
            refine (add_x HX2.out o1 50 #[.int .u64 4, .int .i64 1, .int .i64 2, .string ⟨#[32, 111, 110, 101]⟩] ⟨[], 2, 2000⟩ ⟨#[111, 116, 104, 101, 114, 32, 111, 110, 101]⟩ true 0 0 (by decide) (wf_of (by decide)) ⟨by decide, by decide⟩ rfl ad_o1 rfl).mono ?_
            rintro e we ⟨F3, rfl, hx⟩
            have HX3 := Lib.hid hx
            clear hx
            go_wp2_with fail
            refine (fixed_any _).mono ?_
            rintro e wz ⟨rfl, hb⟩
            have HZ := Lib.hid (HX3.out.below hb)
            clear hb
            go_wp2_with fail
            go_ret
            exact ⟨rfl, HZ.out.al.low⟩
    · have a1 : ¬ (j : Int) < (l2 : Int) := by omega
      clear hjl
      clear hj
      obtain ⟨r0, r1, r2, r3, _, _, _, _⟩ := two_at HX.out.two
      simp only [o0, o1] at r0 r1 r2 r3
      go_wp2_with fail
      clear r0 r1 r2 r3
      refine (add_x (py_px HX.out) o0 0 #[.int .u64 4, .int .i64 0, .int .i64 2, .string ⟨#[111, 116, 104, 101, 114]⟩] (bk []) ⟨#[]⟩ false 0 0 (by decide) (wf_of (by decide)) ⟨by decide, by decide⟩ rfl ad_o0 rfl).mono ?_
      rintro e wd ⟨F1, rfl, hx⟩
      have HX1 := Lib.hid hx
      clear hx HX
      go_wp2_with fail
      go_loopw [16] (fun i wr => ∃ (j : Nat) (F : Nat → Prop), j ≤ m ∧ i = .int .i64 (j : Nat) ∧ Hid (Px w F wr p (bk (shalf ps j 0)) (.slice (some ⟨g, 0, none⟩) m c) (.slice (some ⟨gu, 0, none⟩) 2 cu) ps [o0, o1])) (fun i _ => m - (intOf i).toNat)
      case atStart => exact ⟨0, F1, Nat.zero_le _, rfl, HX1⟩
      case round =>
        clear HX1
        obtain ⟨i, F2, hi, rfl, HX⟩ := hrel
        by_cases him : i < m
        · have b1 : (i : Int) < (m : Int) := by omega
          have iwj : IntKind.u64.wrap (i : Int) = (i : Int) := wrap_u64 (by omega) (by omega)
          obtain ⟨fa, fb, fc, fs, hfj⟩ := frag_eta (ps.getD i zeroF)
          have hcj := fro_cell HX.out.one (j := i) (by rw [HSH.out.len]; exact him)
          rw [hfj] at hcj
          obtain ⟨r0, r1, r2, r3⟩ := hcj
          have had := step_s HSH.out him hm16 HV1.out
          have hof := (HSH.out.of (HSH.out.at him)).1
          rw [hfj] at had hof
          have HW : Hid (fs.size ≤ 1000000 ∧ (⟨fa, fb, fc, fs⟩ : Fr).Wf ∧ U64 (i : Int)) := Lib.hid ⟨by have := rightF_iff.1 hof; simp only at this; omega, right_wf hof, ⟨by omega, by omega⟩⟩
          have HIM := Lib.hid him
          have tA : (A.toList == A.toList) = true := by simp
          clear hfj hof
          by_cases hl : i + 1 = m
          · have HAD := Lib.hid ((told had).1 hl)
            have q1 : ((i : Int) + 1 == (m : Int)) = true := by rw [beq_iff_eq]; omega
            have q2 : (i : Int) + 1 = (m : Int) := by omega
            have q3 : decide ((i : Int) + 1 = (m : Int)) = true := decide_eq_true (by omega)
            clear had hl him hi
            go_wp2_with fail
            clear r0 r1 r2 r3
            refine (add_x HX.out ⟨fa, fb, fc, fs⟩ (i : Int) _ _ _ _ _ 0 HW.out.1 HW.out.2.1 HW.out.2.2 rfl HAD.out rfl).mono ?_
            rintro e we ⟨F3, rfl, hx⟩
            have HX2 := Lib.hid hx
            clear hx
            go_wp2_with fail
            go_roundw
            case rel => exact ⟨i + 1, F3, HIM.out, by go_num, HX2⟩
            case measure => have := HIM.out; simp [intOf]; omega
          · have HAD := Lib.hid ((told had).2 hl)
            have q1 : ((i : Int) + 1 == (m : Int)) = false := by simp; omega
            have q2 : ¬ (i : Int) + 1 = (m : Int) := by omega
            have q3 : decide ((i : Int) + 1 = (m : Int)) = false := decide_eq_false (by omega)
            clear had hl him hi
            go_wp2_with fail
            clear r0 r1 r2 r3
            refine (add_x HX.out ⟨fa, fb, fc, fs⟩ (i : Int) _ _ _ _ _ 0 HW.out.1 HW.out.2.1 HW.out.2.2 rfl HAD.out rfl).mono ?_
            rintro e we ⟨F3, rfl, hx⟩
            have HX2 := Lib.hid hx
            clear hx
            go_wp2_with fail
            go_roundw
            case rel => exact ⟨i + 1, F3, HIM.out, by go_num, HX2⟩
            case measure => have := HIM.out; simp [intOf]; omega
        · obtain rfl : i = m := by omega
          have t0 : decide (i < i) = false := decide_eq_false (Nat.lt_irrefl _)
          have hnil : shalf ps i 0 = [] := if_neg (by rw [HSH.out.len]; omega)
          rw [hnil] at HX
          clear hnil hi him
          go_wp2_with fail
          refine (held_x HX.out 1 5 rfl rfl).mono ?_
          rintro e wd2 ⟨rfl, hx⟩
          have HX2 := Lib.hid hx
          clear hx
          obtain ⟨_, _, _, _, r0, r1, r2, r3⟩ := two_at HX2.out.two
          simp only [o0, o1] at r0 r1 r2 r3
          go_wp2_with fail
          clear r0 r1 r2 r3
          refine (add_x HX2.out o1 50 #[.int .u64 4, .int .i64 1, .int .i64 2, .string ⟨#[32, 111, 110, 101]⟩] ⟨[], 2, 2000⟩ ⟨#[111, 116, 104, 101, 114, 32, 111, 110, 101]⟩ true 0 0 (by decide) (wf_of (by decide)) ⟨by decide, by decide⟩ rfl ad_o1 rfl).mono ?_
          rintro e we ⟨F3, rfl, hx⟩
          have HX3 := Lib.hid hx
          clear hx
          go_wp2_with fail
          refine (fixed_any _).mono ?_
          rintro e wz ⟨rfl, hb⟩
          have HZ := Lib.hid (HX3.out.below hb)
          clear hb
          go_wp2_with fail
          go_ret
          exact ⟨rfl, HZ.out.al.low⟩
theorem walk (a0 : ByteArray) (a1 : Int) (a2 : Option Addr) (l2 c2 : Nat) (z2 : List Int) (w : World) (w0 : a0.size ≤ maxLen) (h1 : (Lit.int .u8 a1).wf = true) (hrow : IsRow .u8 w a2 l2 c2 z2) :
    Calls Try.prog 5 #[.string a0, .int .u8 a1, .slice a2 l2 c2] w fun e w' => e = .returned (.bool true) ∧ Below w.heap.size w w' := by
  obtain ⟨A, m0, u1, v1, y1⟩ := slice_facts a0 1000
  have m2 : min (a0.size : Int) 1000 = A.size := m0
  obtain ⟨y10, y11⟩ := Go.bounds_u8 h1
  obtain ⟨k, hk⟩ : ∃ k : Nat, 1 + a1 = (k : Int) := ⟨(1 + a1).toNat, by omega⟩
  have hg : Good A 3 k := ⟨by omega, by omega, by omega, by omega, by omega⟩
  by_cases e0 : A.size = 0
  · exact walk0 a0 A a1 a2 l2 c2 z2 k w y10 y11 m2 u1 v1 y1 w0 hk hrow (Lib.hid e0)
  · by_cases e1 : 16 < many A.size k
    · exact walk4 a0 A a1 a2 l2 c2 z2 k w y10 y11 m2 u1 v1 y1 w0 hk hrow (Lib.hid ⟨hg, e0, e1⟩)
    · exact walkP a0 A a1 a2 l2 c2 z2 k w y10 y11 m2 u1 v1 y1 w0 hk hrow _ (Lib.hid ⟨hg, e0, rfl, by omega⟩)

set_option maxRecDepth 100000 in
theorem lifted (os : Os) (started : os.Started) (H : Type) (enc : TypeId × Value → H) :
    ReturnsInHanded {} Try.checked os 5 .any (Rows.poolBackSpec.pre6 enc Try.prog Try.f5 Rows.poolBackRow.domain false) (Rows.poolBackSpec.post enc Try.prog Try.f5 false true false false) := by
  refine returnsInHanded_of_change (C := Try.checked) own started (by kernel_rfl) Try.func5
    (ChangeSpec.witness6 (enc := enc) (C := Try.checked) false ⟨#[], #[.string ByteArray.empty, .int .u8 0, .slice none 0 0], []⟩ 8 (by kernel_rfl) (by kernel_rfl) (by kernel_rfl) (by kernel_rfl)) ?_
  intro W base args ds gs before hval0 hW hcnd _
  have hval : ∀ (j : Nat) t v, Try.f5.params[j]? = some t → args[j]? = some v → Value.okWide Try.prog W .any base t v := hval0
  have hW' := hW
  obtain ⟨p, q, hA0, hV, rfl, hfz, hnd⟩ := hW
  have hA : DataW.TrodAll enc Try.prog W 0 (fun _ => true) true Try.f5.params.toList args.toList ds p := hA0
  rw [Try.params5] at hA hval
  obtain ⟨v0, vs0, d0, ds0, p0, q0, hargs, rfl, rfl, h0, r0⟩ := trodAll_cons hA
  obtain ⟨v1, vs1, d1, ds1, p1, q1, rfl, rfl, rfl, h1, r1⟩ := trodAll_cons r0
  obtain ⟨v2, vs2, d2, ds2, p2, q2, rfl, rfl, rfl, h2, r2⟩ := trodAll_cons r1
  obtain ⟨rfl, rfl, rfl⟩ := trodAll_nil r2
  obtain rfl : args = #[v0, v1, v2] := by cases args; simp_all
  obtain ⟨rfl, rfl⟩ := trodVars_none hV
  obtain ⟨a0, rfl, rfl, rfl, w0⟩ := open_string Try.underlying9 (hval 0 9 v0 rfl rfl) h0
  obtain ⟨a1, rfl, rfl, rfl, w1⟩ := open_int Try.underlying5 (hval 1 5 v1 rfl rfl) h1
  obtain ⟨a2, len2, cap2, rfl⟩ := okWide_slice Try.underlying50 (hval 2 50 v2 rfl rfl)
  have k2 := h2
  have lt2 : ∀ x ∈ p2, x.block < W.heap.size := by obtain ⟨m, hm⟩ := k2; exact DataW.trod_lt m _ _ _ hm
  obtain ⟨z2, w2⟩ : ∃ zs, IsRow .u8 W a2 len2 cap2 zs := by
    obtain ⟨fuel, hf⟩ := h2
    rcases open_ints Try.underlying50 Try.underlying5 (by kernel_rfl) hf with ⟨hcs, _⟩ | ⟨x, l, c, zs, hcs, _, hl, hm, hz, _, hcell, hwz⟩
    · simp [Value.cells] at hcs
      obtain ⟨rfl, rfl, rfl⟩ := hcs
      exact ⟨[], .inl ⟨rfl, rfl, rfl, rfl⟩⟩
    · simp [Value.cells] at hcs
      obtain ⟨rfl, rfl, rfl⟩ := hcs
      exact ⟨zs, .inr ⟨_, rfl, hl, hm, by simpa using hz, hcell, hwz⟩⟩
  clear hA0 hval0
  refine (walk a0 a1 a2 len2 cap2 z2 W w0 w1 w2).mono fun e W' ⟨he, bel⟩ => ?_
  subst he
  exact ⟨_, rfl, _, _, _, [], _, [], hW', trodAll_mk1 (shut_bool Try.underlying4 _), (trodAll_cons_mk (shut_string Try.underlying9 w0) (trodAll_cons_mk (shut_int Try.underlying5 w1) (trodAll_cons_mk (Below.trod laidOut (by kernel_rfl) (of_decide_eq_true (by kernel_rfl)) k2 bel lt2) trodAll_mk0))), rfl, bel.frame _, fun h => by cases h⟩

theorem over : Rows.poolBackRow.holds Try.pinned (OpenSpec.ofChange Rows.poolBackSpec) :=
  OpenClaim.holds_of_wide 5 Try.f5 rfl rfl rfl rfl rfl rfl rfl ⟨rfl, rfl, rfl, rfl, rfl⟩ rfl rfl rfl rfl rfl (by kernel_rfl) Try.func5 (by kernel_rfl)
    (of_decide_eq_true (by kernel_rfl)) (by unfold Func.isWrapper; first | (rw [if_pos (by decide +kernel)]; kernel_rfl) | (rw [if_neg (by decide +kernel)]; exact ⟨rfl, rfl⟩))
    (fun os started H enc _ => lifted os started H enc)

theorem proved : Rows.PoolBackSaid := over
#print axioms proved
end Go.Proofs.Ytjcgckhheegonaa.poolBack
