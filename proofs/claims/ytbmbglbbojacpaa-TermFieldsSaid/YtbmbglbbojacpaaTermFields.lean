/- TermFields: behind every row of terms, a term with one field more than its kind has is none, nor is one of which a part is not there. No condition. -/
import Derived.Test.YtbmbglbbojacpaaRows
import Derived.Test.YtbmbglbbojacpaaStores
import Derived.WalkKit
import Derived.ProofKit
import Derived.OpenShut
import Derived.ShutString
import Derived.ChangeOld
import Derived.Below
namespace Go.Proofs.Ytbmbglbbojacpaa.termFields
open Go.ChangeShapes Go.WideShapes Go.ChangeAt Go.RowKit
open Go.ChangeMaps (open_string shut_string)
open Go.Proofs.Ytbmbglbbojacpaa
set_option linter.unusedVariables false

theorem own : ownKnob Try.prog.godebug = none := by kernel_rfl
theorem laidOut : laidOutB Try.prog = true := by kernel_rfl

def fx77 : Tm := ⟨2, ⟨#[]⟩, 77, 0, 0, 0⟩
theorem wf77 : Wf fx77 := ⟨by decide, by decide, by decide, by decide, by decide, by decide⟩
theorem may77 (n : Nat) : fx77.may n = true := by
  unfold Tm.may
  apply decide_eq_true
  refine ⟨(by decide : (1 : Int) ≤ 2), (by decide : (2 : Int) ≤ 11), fun _ => tl0, fun h => absurd rfl h, Nat.zero_le _, ?_, fun h => absurd (show (2 : Int) = 4 from h) (by decide)⟩
  rw [below3]
  simp [BadP, many, fx77, prt]
theorem put_ok (L : List Tm) (t : Tm) (hl : L.length ≤ 20) (hm : t.may L.length = true) : ∃ nm L', putF L 1000 t = (nm, 0, L') ∧ L.length ≤ L'.length ∧ L'.length ≤ L.length + 1 ∧ 1 ≤ L'.length := by
  rcases putF_cases L 1000 t with ⟨hp, h⟩ | ⟨j, hj, hp, hjt, _, hn⟩ | ⟨hr, hp, _, _⟩ | ⟨hr, hp, _, h0⟩
  · rw [hm] at h; cases h
  · exact ⟨_, L, hp, Nat.le_refl _, by omega, by omega⟩
  · omega
  · exact ⟨_, _, hp, by simp, by simp, by simp⟩
theorem put_bad (L : List Tm) (t : Tm) (hm : ¬ May L.length t.K t.S t.N t.A t.B t.C) : putF L 1000 t = (0, 1, L) := by
  unfold putF Tm.may
  rw [if_neg (by simpa using hm)]
theorem may_of (n : Nat) (t : Tm) (h : May n t.K t.S t.N t.A t.B t.C) : t.may n = true := decide_eq_true h
theorem x_ne : (⟨#[120]⟩ : ByteArray).toList ≠ [] := fun h => by have := (empty_iff _).1 h; exact absurd (congrArg ByteArray.size this) (by decide)
theorem wf_small' (a : Int) (h1 : -1 ≤ a) (h2 : a ≤ 1048577) : (Lit.int .i64 a).wf = true := by
  have e1 : IntKind.i64.min = -9223372036854775808 := by decide
  have e2 : IntKind.i64.max = 9223372036854775807 := by decide
  simp only [Lit.wf, e1, e2, Bool.and_eq_true, decide_eq_true_eq]
  omega
theorem wfN (N : Int) (hN : N = 0 ∨ N = 9) : (Lit.int .u64 N).wf = true := by
  rcases hN with rfl | rfl
  · decide
  · decide
theorem wf_t (K : Int) (S : ByteArray) (N A B C : Int) (hS : S.size ≤ 1) (hN : N = 0 ∨ N = 9) (k1 : -1 ≤ K) (k2 : K ≤ 100) (a1 : -1 ≤ A) (a2 : A ≤ 100) (b1 : -1 ≤ B) (b2 : B ≤ 100) (c1 : -1 ≤ C) (c2 : C ≤ 100) : Wf ⟨K, S, N, A, B, C⟩ :=
  ⟨by show S.size ≤ maxLen; unfold maxLen; omega, wf_small' K k1 (by omega), wfN N hN, wf_small' A a1 (by omega), wf_small' B b1 (by omega), wf_small' C c1 (by omega)⟩

/-- Both stores, and a term's box. -/
def PX (w : World) (g1 g2 : Nat) (L Lr : List Tm) (q : Nat) (cs : Array Value) (W : World) : Prop :=
  Pair w.heap.size (PSq w.heap.size g1 1000) (RSq w.heap.size g2 1000) L Lr (fun k => k = q) w W ∧ W.heap[q]? = some (.cells cs 32 (0, 0)) ∧ w.heap.size ≤ q
theorem PX.below {w W W' : World} {g1 g2 : Nat} {L Lr : List Tm} {q : Nat} {cs : Array Value} (h : PX w g1 g2 L Lr q cs W) (hb : Below W.heap.size W W') : PX w g1 g2 L Lr q cs W' :=
  ⟨h.1.below (PSq.good _ _ _) (RSq.good _ _ _) hb, by rw [hb.block _ (blk_lt h.2.1)]; exact h.2.1, h.2.2⟩
theorem PX.set {w W : World} {g1 g2 : Nat} {L Lr : List Tm} {q : Nat} {cs : Array Value} (h : PX w g1 g2 L Lr q cs W) (i : Nat) (v : Value) : PX w g1 g2 L Lr q (cs.setIfInBounds i v) (W.setCell ⟨q, i, none⟩ v) := by
  obtain ⟨⟨F1, F2, p1, p2, p3, p4, p5, p6⟩, h2, h3⟩ := h
  have C := Chg.setCell W q i v
  have hq := p4 q rfl
  refine ⟨⟨F1, F2, (PSq.good _ _ _).frame p1 C (fun k a e => hq.1 (by rw [← e]; exact a)), (RSq.good _ _ _).frame p2 C (fun k a e => hq.2.1 (by rw [← e]; exact a)), p3, fun k hk => ⟨(p4 k hk).1, (p4 k hk).2.1, Nat.lt_of_lt_of_le (p4 k hk).2.2 C.size⟩, p5, p6.setCell h3 v⟩, heap_setCell_same W q i _ _ v h2, h3⟩
theorem PX.put {w W : World} {g1 g2 : Nat} {L L' Lr : List Tm} {q : Nat} {cs : Array Value} {a b : Int} (h : PX w g1 g2 L Lr q cs W) (t : Tm) (ht : Wf t) (hf : putF L 1000 t = (a, b, L')) :
    Calls Try.prog 13 #[.pointer (some ⟨g1, 0, none⟩), t.v] W fun e w' => e = .returned (.tuple #[.int .i64 a, .int .i64 b]) ∧ PX w g1 g2 L' Lr q cs w' :=
  (h.1.putP (RSq.good _ _ _) t ht hf).mono fun e w' ⟨h1, h2, h3⟩ => ⟨h1, h2, by rw [h3 q rfl]; exact h.2.1, h.2.2⟩
theorem PX.at {w W : World} {g1 g2 : Nat} {L Lr : List Tm} {q : Nat} {cs : Array Value} (h : PX w g1 g2 L Lr q cs W) (j : Nat) : W.cell? ⟨q, j, none⟩ = cs[j]? ∧ W.frozen? ⟨q, j, none⟩ = false :=
  ⟨cell_of_row W q j _ _ _ h.2.1, frozen_of_row W q j _ _ h.2.1⟩

set_option maxHeartbeats 4000000 in
set_option maxRecDepth 100000 in
theorem walkN (a0 : Option Addr) (len0 cap0 : Nat) (T0 : Nat → Tm) (n1 n2 κ : Nat) (w : World) (w0 : Terms w a0 len0 cap0 T0) (h1 : n1 ≤ 255) (h2 : n2 ≤ 255) (hκ : (n1 : Int).tmod 11 = (κ : Int)) (hκ2 : κ ≤ 10)
    (hr5 : (n2 : Int).tmod 5 = 0 ∨ (n2 : Int).tmod 5 = 1 ∨ (n2 : Int).tmod 5 = 2 ∨ (n2 : Int).tmod 5 = 3 ∨ (n2 : Int).tmod 5 = 4) :
    Calls Try.prog 5 #[.slice a0 len0 cap0, .int .u8 n1, .int .u8 n2] w fun e w' => e = .returned (.bool true) ∧ Below w.heap.size w w' := by
  have HR5 := Lib.hid hr5
  clear hr5
  go_enter Try.func5, Try.ntmps5
  go_wp2_with fail
  refine (stores_any 10 a0 len0 cap0 T0 w (by omega) w0).mono ?_
  rintro e w1 ⟨g1, g2, L, rfl, hL, hp⟩
  have gP := PSq.good w.heap.size g1 1000
  have gR := RSq.good w.heap.size g2 1000
  clear w0
  obtain ⟨nm1, L1, hp1, hl1, hl2, hl3⟩ := put_ok L fx77 (by omega) (may77 _)
  go_wp2_with fail
  refine (hp.putP gR fx77 wf77 hp1).mono ?_
  rintro e w3 ⟨rfl, hP3, _⟩
  have HP3 := Lib.hid hP3
  clear hp hP3 hp1
  go_wp2_with fail
  have hbx := HP3.out.box gP gR (.cells #[.int .i64 (1 + (κ : Int)), .string ⟨#[]⟩, .int .u64 0, .int .i64 0, .int .i64 0, .int .i64 0] 32)
  have HX0 : Hid (PX w g1 g2 L1 L w3.heap.size #[.int .i64 (1 + (κ : Int)), .string ⟨#[]⟩, .int .u64 0, .int .i64 0, .int .i64 0, .int .i64 0] (w3.alloc (.cells #[.int .i64 (1 + (κ : Int)), .string ⟨#[]⟩, .int .u64 0, .int .i64 0, .int .i64 0, .int .i64 0] 32))) := Lib.hid ⟨hbx.less (fun k q => .inr q), heap_alloc_new w3 _, HP3.out.base_le⟩
  clear hbx
  obtain ⟨K, hK⟩ : ∃ K, K = 1 + (κ : Int) := ⟨_, rfl⟩
  rw [← hK] at HX0 ⊢
  have hK1 : 1 ≤ K := by omega
  have hK2 : K ≤ 11 := by omega
  clear hκ hK hκ2
  generalize w3.alloc (.cells #[.int .i64 K, .string ⟨#[]⟩, .int .u64 0, .int .i64 0, .int .i64 0, .int .i64 0] 32) = w3' at HX0 ⊢
  refine (parts_prog _ _ _ _ _ _ _).mono ?_
  rintro e w4 ⟨bb, rfl, hb4, _, _⟩
  have HX1 := Lib.hid (HX0.out.below hb4)
  clear hb4 HX0 HP3
  have hm4 : many K = 0 ∨ many K = 1 ∨ many K = 2 ∨ many K = 3 := by have := many_le K; omega
  obtain ⟨n, hn'⟩ : ∃ n, n = L1.length := ⟨_, rfl⟩
  have hn : (L1.length : Int) = (n : Int) := by omega
  have hr5 := HR5.out
  clear HR5
  have hnb1 : 1 ≤ n := by omega
  have hnb2 : n ≤ 11 := by omega
  rcases hm4 with hmk | hmk | hmk | hmk
  · have hp : ∃ aP, partsV bb K = .slice aP 0 0 := by
      unfold partsV
      rw [if_pos hmk]
      exact ⟨_, rfl⟩
    obtain ⟨aP, hp⟩ := hp
    rw [hp]
    have HMK := Lib.hid hmk
    clear hp hmk
    have z0 := (HX1.out.at 0).1
    have z1 := (HX1.out.at 1).1
    have z2 := (HX1.out.at 2).1
    have z3 := (HX1.out.at 3).1
    have z4 := (HX1.out.at 4).1
    have z5 := (HX1.out.at 5).1
    simp at z0 z1 z2 z3 z4 z5
    have f1 := (HX1.out.at 1).2
    have f2 := (HX1.out.at 2).2
    have f3 := (HX1.out.at 3).2
    have f4 := (HX1.out.at 4).2
    have f5 := (HX1.out.at 5).2
    go_wp2_with fail
    refine (HX1.out.1.lenP).mono ?_
    rintro e w6 ⟨rfl, rfl⟩
    rw [hn]
    go_wp2_with fail
    have HXa : Hid (PX w g1 g2 L1 L w3.heap.size #[.int .i64 K, .string ⟨#[]⟩, .int .u64 0, .int .i64 0, .int .i64 0, .int .i64 0] w4) := Lib.hid HX1.out
    have hmay : May L1.length K ⟨#[]⟩ 0 0 0 0 := by
      have hm2 := HMK.out
      refine ⟨hK1, hK2, fun _ => tl0, fun _ _ _ => rfl, Nat.zero_le _, ?_, fun h => (by rw [h] at hm2; exact absurd hm2 (by decide))⟩
      rw [below3, hm2]
      simp [BadP, prt]
      try omega
    obtain ⟨nm2, L2, hp2, hl1, hl2, _⟩ := put_ok L1 ⟨K, ⟨#[]⟩, 0, 0, 0, 0⟩ (by omega) (may_of _ _ hmay)
    refine (HXa.out.put ⟨K, ⟨#[]⟩, 0, 0, 0, 0⟩ (wf_t K ⟨#[]⟩ 0 0 0 0 (by decide) (by omega) (by omega) (by omega) (by omega) (by omega) (by omega) (by omega) (by omega) (by omega)) hp2).mono ?_
    rintro e w5 ⟨rfl, hX2⟩
    have HX2 := Lib.hid hX2
    clear hX2 HXa HX1 hp2 hmay z0 z1 z2 z3 z4 z5 f1 f2 f3 f4 f5
    have z0 := (HX2.out.at 0).1
    have z1 := (HX2.out.at 1).1
    have z2 := (HX2.out.at 2).1
    have z3 := (HX2.out.at 3).1
    have z4 := (HX2.out.at 4).1
    have z5 := (HX2.out.at 5).1
    simp at z0 z1 z2 z3 z4 z5
    have f1 := (HX2.out.at 1).2
    have f2 := (HX2.out.at 2).2
    have f3 := (HX2.out.at 3).2
    have f4 := (HX2.out.at 4).2
    have f5 := (HX2.out.at 5).2
    have hL2 : (L2.length : Int) ≤ 13 := by omega
    have hL20 : (0 : Int) ≤ (L2.length : Int) := by omega
    have d1 : decide ((1 : Int) ≤ (n : Int)) = true := decide_eq_true (by omega)
    rcases hr5 with hr | hr | hr | hr | hr
    · by_cases hk : K = 1
      · have hkb : (K == 1) = true := beq_iff_eq.2 hk
        have HKK := Lib.hid hk
        clear hk
        go_wp2_with fail
        have HX3 : Hid (PX w g1 g2 L2 L w3.heap.size #[.int .i64 K, .string ⟨#[120]⟩, .int .u64 0, .int .i64 0, .int .i64 0, .int .i64 0] (w5.setCell ⟨w3.heap.size, 1, none⟩ (.string ⟨#[120]⟩))) := Lib.hid (HX2.out.set 1 (.string ⟨#[120]⟩))
        obtain ⟨nm3, L3, hp3, _, _, _⟩ := put_ok L2 ⟨K, ⟨#[120]⟩, 0, 0, 0, 0⟩ (by omega) (may_of _ _ (⟨hK1, hK2, fun h => absurd HKK.out h, fun _ _ _ => rfl, (by decide : (⟨#[120]⟩ : ByteArray).size ≤ 1000), by rw [below3, HMK.out]; simp [BadP, prt], fun h => absurd (HKK.out.symm.trans h) (by decide)⟩))
        refine (HX3.out.put ⟨K, ⟨#[120]⟩, 0, 0, 0, 0⟩ (wf_t K ⟨#[120]⟩ 0 0 0 0 (by decide) (by omega) (by omega) (by omega) (by omega) (by omega) (by omega) (by omega) (by omega) (by omega)) hp3).mono ?_
        rintro e w7 ⟨rfl, hX4⟩
        have HX4 := Lib.hid hX4
        clear hX4 HX3 HX2 z0 z1 z2 z3 z4 z5 f1 f2 f3 f4 f5
        go_wp2_with fail
        refine (fixed_any _).mono ?_
        rintro e w8 ⟨rfl, hb8⟩
        have hb9 := HX4.out.1.belowW.trans (hb8.mono HX4.out.1.base_le)
        clear hb8
        go_wp2
        go_ret
        exact ⟨rfl, hb9⟩
      · have hkb : (K == 1) = false := beq_eq_false_iff_ne.2 hk
        go_wp2_with fail
        have HX3 : Hid (PX w g1 g2 L2 L w3.heap.size #[.int .i64 K, .string ⟨#[120]⟩, .int .u64 0, .int .i64 0, .int .i64 0, .int .i64 0] (w5.setCell ⟨w3.heap.size, 1, none⟩ (.string ⟨#[120]⟩))) := Lib.hid (HX2.out.set 1 (.string ⟨#[120]⟩))
        refine (HX3.out.put ⟨K, ⟨#[120]⟩, 0, 0, 0, 0⟩ (wf_t K ⟨#[120]⟩ 0 0 0 0 (by decide) (by omega) (by omega) (by omega) (by omega) (by omega) (by omega) (by omega) (by omega) (by omega)) (put_bad L2 ⟨K, ⟨#[120]⟩, 0, 0, 0, 0⟩ (fun hh => x_ne (hh.2.2.1 hk)))).mono ?_
        rintro e w7 ⟨rfl, hX4⟩
        have HX4 := Lib.hid hX4
        clear hX4 HX3 HX2 z0 z1 z2 z3 z4 z5 f1 f2 f3 f4 f5
        go_wp2_with fail
        refine (fixed_any _).mono ?_
        rintro e w8 ⟨rfl, hb8⟩
        have hb9 := HX4.out.1.belowW.trans (hb8.mono HX4.out.1.base_le)
        clear hb8
        go_wp2
        go_ret
        exact ⟨rfl, hb9⟩
    · by_cases hk : K = 2
      · have hkb : (K == 2) = true := beq_iff_eq.2 hk
        have HKK := Lib.hid hk
        clear hk
        have hk9 : (K == 9) = false := beq_eq_false_iff_ne.2 (fun e => by have := HMK.out; rw [e] at this; exact absurd this (by decide))
        have hk10 : (K == 10) = false := beq_eq_false_iff_ne.2 (fun e => by have := HMK.out; rw [e] at this; exact absurd this (by decide))
        go_wp2_with fail
        have HX3 : Hid (PX w g1 g2 L2 L w3.heap.size #[.int .i64 K, .string ⟨#[]⟩, .int .u64 9, .int .i64 0, .int .i64 0, .int .i64 0] (w5.setCell ⟨w3.heap.size, 2, none⟩ (.int .u64 9))) := Lib.hid (HX2.out.set 2 (.int .u64 9))
        obtain ⟨nm3, L3, hp3, _, _, _⟩ := put_ok L2 ⟨K, ⟨#[]⟩, 9, 0, 0, 0⟩ (by omega) (may_of _ _ (⟨hK1, hK2, fun _ => tl0, fun h1 h2 h3 => absurd HKK.out h1, Nat.zero_le _, by rw [below3, HMK.out]; simp [BadP, prt]; try omega, fun h => absurd (HKK.out.symm.trans h) (by decide)⟩))
        refine (HX3.out.put ⟨K, ⟨#[]⟩, 9, 0, 0, 0⟩ (wf_t K ⟨#[]⟩ 9 0 0 0 (by decide) (by omega) (by omega) (by omega) (by omega) (by omega) (by omega) (by omega) (by omega) (by omega)) hp3).mono ?_
        rintro e w7 ⟨rfl, hX4⟩
        have HX4 := Lib.hid hX4
        clear hX4 HX3 HX2 z0 z1 z2 z3 z4 z5 f1 f2 f3 f4 f5
        go_wp2_with fail
        refine (fixed_any _).mono ?_
        rintro e w8 ⟨rfl, hb8⟩
        have hb9 := HX4.out.1.belowW.trans (hb8.mono HX4.out.1.base_le)
        clear hb8
        go_wp2
        go_ret
        exact ⟨rfl, hb9⟩
      · have hkb : (K == 2) = false := beq_eq_false_iff_ne.2 hk
        have hk9 : (K == 9) = false := beq_eq_false_iff_ne.2 (fun e => by have := HMK.out; rw [e] at this; exact absurd this (by decide))
        have hk10 : (K == 10) = false := beq_eq_false_iff_ne.2 (fun e => by have := HMK.out; rw [e] at this; exact absurd this (by decide))
        go_wp2_with fail
        have HX3 : Hid (PX w g1 g2 L2 L w3.heap.size #[.int .i64 K, .string ⟨#[]⟩, .int .u64 9, .int .i64 0, .int .i64 0, .int .i64 0] (w5.setCell ⟨w3.heap.size, 2, none⟩ (.int .u64 9))) := Lib.hid (HX2.out.set 2 (.int .u64 9))
        refine (HX3.out.put ⟨K, ⟨#[]⟩, 9, 0, 0, 0⟩ (wf_t K ⟨#[]⟩ 9 0 0 0 (by decide) (by omega) (by omega) (by omega) (by omega) (by omega) (by omega) (by omega) (by omega) (by omega)) (put_bad L2 ⟨K, ⟨#[]⟩, 9, 0, 0, 0⟩ (fun hh => by
          have h9 := hh.2.2.2.1 (by simpa using hk) (by simpa using hk9) (by simpa using hk10)
          exact absurd h9 (show ¬ (9 : Int) = 0 by decide)))).mono ?_
        rintro e w7 ⟨rfl, hX4⟩
        have HX4 := Lib.hid hX4
        clear hX4 HX3 HX2 z0 z1 z2 z3 z4 z5 f1 f2 f3 f4 f5
        go_wp2_with fail
        refine (fixed_any _).mono ?_
        rintro e w8 ⟨rfl, hb8⟩
        have hb9 := HX4.out.1.belowW.trans (hb8.mono HX4.out.1.base_le)
        clear hb8
        go_wp2
        go_ret
        exact ⟨rfl, hb9⟩
    · have hkt : True := trivial
      go_wp2_with fail
      refine (HX2.out.1.lenP).mono ?_
      rintro e w6 ⟨rfl, rfl⟩
      go_wp2_with fail
      have HX3 : Hid (PX w g1 g2 L2 L w3.heap.size #[.int .i64 K, .string ⟨#[]⟩, .int .u64 0, .int .i64 ((L2.length : Int) + 1), .int .i64 0, .int .i64 0] (w5.setCell ⟨w3.heap.size, 3, none⟩ (.int .i64 ((L2.length : Int) + 1)))) := Lib.hid (HX2.out.set 3 (.int .i64 ((L2.length : Int) + 1)))
      refine (HX3.out.put ⟨K, ⟨#[]⟩, 0, ((L2.length : Int) + 1), 0, 0⟩ (wf_t K ⟨#[]⟩ 0 ((L2.length : Int) + 1) 0 0 (by decide) (by omega) (by omega) (by omega) (by omega) (by omega) (by omega) (by omega) (by omega) (by omega)) (put_bad L2 ⟨K, ⟨#[]⟩, 0, ((L2.length : Int) + 1), 0, 0⟩ (fun hh => by
        have h9 := hh.2.2.2.2.2.1 0 (by omega)
        apply h9
        rw [HMK.out]
        simp [BadP, prt]
        try omega))).mono ?_
      rintro e w7 ⟨rfl, hX4⟩
      have HX4 := Lib.hid hX4
      clear hX4 HX3 HX2 z0 z1 z2 z3 z4 z5 f1 f2 f3 f4 f5
      go_wp2_with fail
      refine (fixed_any _).mono ?_
      rintro e w8 ⟨rfl, hb8⟩
      have hb9 := HX4.out.1.belowW.trans (hb8.mono HX4.out.1.base_le)
      clear hb8
      go_wp2
      go_ret
      exact ⟨rfl, hb9⟩
    · have hkt : True := trivial
      go_wp2_with fail
      refine (HX2.out.1.lenP).mono ?_
      rintro e w6 ⟨rfl, rfl⟩
      go_wp2_with fail
      have HX3 : Hid (PX w g1 g2 L2 L w3.heap.size #[.int .i64 K, .string ⟨#[]⟩, .int .u64 0, .int .i64 0, .int .i64 ((L2.length : Int) + 5), .int .i64 0] (w5.setCell ⟨w3.heap.size, 4, none⟩ (.int .i64 ((L2.length : Int) + 5)))) := Lib.hid (HX2.out.set 4 (.int .i64 ((L2.length : Int) + 5)))
      refine (HX3.out.put ⟨K, ⟨#[]⟩, 0, 0, ((L2.length : Int) + 5), 0⟩ (wf_t K ⟨#[]⟩ 0 0 ((L2.length : Int) + 5) 0 (by decide) (by omega) (by omega) (by omega) (by omega) (by omega) (by omega) (by omega) (by omega) (by omega)) (put_bad L2 ⟨K, ⟨#[]⟩, 0, 0, ((L2.length : Int) + 5), 0⟩ (fun hh => by
        have h9 := hh.2.2.2.2.2.1 1 (by omega)
        apply h9
        rw [HMK.out]
        simp [BadP, prt]
        try omega))).mono ?_
      rintro e w7 ⟨rfl, hX4⟩
      have HX4 := Lib.hid hX4
      clear hX4 HX3 HX2 z0 z1 z2 z3 z4 z5 f1 f2 f3 f4 f5
      go_wp2_with fail
      refine (fixed_any _).mono ?_
      rintro e w8 ⟨rfl, hb8⟩
      have hb9 := HX4.out.1.belowW.trans (hb8.mono HX4.out.1.base_le)
      clear hb8
      go_wp2
      go_ret
      exact ⟨rfl, hb9⟩
    · have hkt : True := trivial
      go_wp2_with fail
      have HX3 : Hid (PX w g1 g2 L2 L w3.heap.size #[.int .i64 K, .string ⟨#[]⟩, .int .u64 0, .int .i64 0, .int .i64 0, .int .i64 (-1)] (w5.setCell ⟨w3.heap.size, 5, none⟩ (.int .i64 (-1)))) := Lib.hid (HX2.out.set 5 (.int .i64 (-1)))
      refine (HX3.out.put ⟨K, ⟨#[]⟩, 0, 0, 0, (-1)⟩ (wf_t K ⟨#[]⟩ 0 0 0 (-1) (by decide) (by omega) (by omega) (by omega) (by omega) (by omega) (by omega) (by omega) (by omega) (by omega)) (put_bad L2 ⟨K, ⟨#[]⟩, 0, 0, 0, (-1)⟩ (fun hh => by
        have h9 := hh.2.2.2.2.2.1 2 (by omega)
        apply h9
        rw [HMK.out]
        simp [BadP, prt]
        try omega))).mono ?_
      rintro e w7 ⟨rfl, hX4⟩
      have HX4 := Lib.hid hX4
      clear hX4 HX3 HX2 z0 z1 z2 z3 z4 z5 f1 f2 f3 f4 f5
      go_wp2_with fail
      refine (fixed_any _).mono ?_
      rintro e w8 ⟨rfl, hb8⟩
      have hb9 := HX4.out.1.belowW.trans (hb8.mono HX4.out.1.base_le)
      clear hb8
      go_wp2
      go_ret
      exact ⟨rfl, hb9⟩
  · have hp : ∃ aP, partsV bb K = .slice aP 1 1 := by
      unfold partsV
      rw [if_neg (by omega), hmk]
      exact ⟨_, rfl⟩
    obtain ⟨aP, hp⟩ := hp
    rw [hp]
    have HMK := Lib.hid hmk
    clear hp hmk
    have z0 := (HX1.out.at 0).1
    have z1 := (HX1.out.at 1).1
    have z2 := (HX1.out.at 2).1
    have z3 := (HX1.out.at 3).1
    have z4 := (HX1.out.at 4).1
    have z5 := (HX1.out.at 5).1
    simp at z0 z1 z2 z3 z4 z5
    have f1 := (HX1.out.at 1).2
    have f2 := (HX1.out.at 2).2
    have f3 := (HX1.out.at 3).2
    have f4 := (HX1.out.at 4).2
    have f5 := (HX1.out.at 5).2
    go_wp2_with fail
    refine (HX1.out.1.lenP).mono ?_
    rintro e w6 ⟨rfl, rfl⟩
    rw [hn]
    go_wp2_with fail
    have HXa : Hid (PX w g1 g2 L1 L w3.heap.size #[.int .i64 K, .string ⟨#[]⟩, .int .u64 0, .int .i64 (n : Int), .int .i64 0, .int .i64 0] (w4.setCell ⟨w3.heap.size, 3, none⟩ (.int .i64 (n : Int)))) := Lib.hid (HX1.out.set 3 (.int .i64 (n : Int)))
    have hmay : May L1.length K ⟨#[]⟩ 0 (n : Int) 0 0 := by
      have hm2 := HMK.out
      refine ⟨hK1, hK2, fun _ => tl0, fun _ _ _ => rfl, Nat.zero_le _, ?_, fun h => (by rw [h] at hm2; exact absurd hm2 (by decide))⟩
      rw [below3, hm2]
      simp [BadP, prt]
      try omega
    obtain ⟨nm2, L2, hp2, hl1, hl2, _⟩ := put_ok L1 ⟨K, ⟨#[]⟩, 0, (n : Int), 0, 0⟩ (by omega) (may_of _ _ hmay)
    refine (HXa.out.put ⟨K, ⟨#[]⟩, 0, (n : Int), 0, 0⟩ (wf_t K ⟨#[]⟩ 0 (n : Int) 0 0 (by decide) (by omega) (by omega) (by omega) (by omega) (by omega) (by omega) (by omega) (by omega) (by omega)) hp2).mono ?_
    rintro e w5 ⟨rfl, hX2⟩
    have HX2 := Lib.hid hX2
    clear hX2 HXa HX1 hp2 hmay z0 z1 z2 z3 z4 z5 f1 f2 f3 f4 f5
    have z0 := (HX2.out.at 0).1
    have z1 := (HX2.out.at 1).1
    have z2 := (HX2.out.at 2).1
    have z3 := (HX2.out.at 3).1
    have z4 := (HX2.out.at 4).1
    have z5 := (HX2.out.at 5).1
    simp at z0 z1 z2 z3 z4 z5
    have f1 := (HX2.out.at 1).2
    have f2 := (HX2.out.at 2).2
    have f3 := (HX2.out.at 3).2
    have f4 := (HX2.out.at 4).2
    have f5 := (HX2.out.at 5).2
    have hL2 : (L2.length : Int) ≤ 13 := by omega
    have hL20 : (0 : Int) ≤ (L2.length : Int) := by omega
    have d1 : decide ((1 : Int) ≤ (n : Int)) = true := decide_eq_true (by omega)
    rcases hr5 with hr | hr | hr | hr | hr
    · have hk : K ≠ 1 := fun e => by have := HMK.out; rw [e] at this; exact absurd this (by decide)
      have hkb : (K == 1) = false := beq_eq_false_iff_ne.2 hk
      go_wp2_with fail
      have HX3 : Hid (PX w g1 g2 L2 L w3.heap.size #[.int .i64 K, .string ⟨#[120]⟩, .int .u64 0, .int .i64 (n : Int), .int .i64 0, .int .i64 0] (w5.setCell ⟨w3.heap.size, 1, none⟩ (.string ⟨#[120]⟩))) := Lib.hid (HX2.out.set 1 (.string ⟨#[120]⟩))
      refine (HX3.out.put ⟨K, ⟨#[120]⟩, 0, (n : Int), 0, 0⟩ (wf_t K ⟨#[120]⟩ 0 (n : Int) 0 0 (by decide) (by omega) (by omega) (by omega) (by omega) (by omega) (by omega) (by omega) (by omega) (by omega)) (put_bad L2 ⟨K, ⟨#[120]⟩, 0, (n : Int), 0, 0⟩ (fun hh => x_ne (hh.2.2.1 hk)))).mono ?_
      rintro e w7 ⟨rfl, hX4⟩
      have HX4 := Lib.hid hX4
      clear hX4 HX3 HX2 z0 z1 z2 z3 z4 z5 f1 f2 f3 f4 f5
      go_wp2_with fail
      refine (fixed_any _).mono ?_
      rintro e w8 ⟨rfl, hb8⟩
      have hb9 := HX4.out.1.belowW.trans (hb8.mono HX4.out.1.base_le)
      clear hb8
      go_wp2
      go_ret
      exact ⟨rfl, hb9⟩
    · by_cases hk : K = 9
      · have hkb : (K == 9) = true := beq_iff_eq.2 hk
        have HKK := Lib.hid hk
        clear hk
        have hk2 : (K == 2) = false := beq_eq_false_iff_ne.2 (fun e => by have := HMK.out; rw [e] at this; exact absurd this (by decide))
        have hk10 : (K == 10) = false := beq_eq_false_iff_ne.2 (fun e => by have := HMK.out; rw [e] at this; exact absurd this (by decide))
        go_wp2_with fail
        have HX3 : Hid (PX w g1 g2 L2 L w3.heap.size #[.int .i64 K, .string ⟨#[]⟩, .int .u64 9, .int .i64 (n : Int), .int .i64 0, .int .i64 0] (w5.setCell ⟨w3.heap.size, 2, none⟩ (.int .u64 9))) := Lib.hid (HX2.out.set 2 (.int .u64 9))
        obtain ⟨nm3, L3, hp3, _, _, _⟩ := put_ok L2 ⟨K, ⟨#[]⟩, 9, (n : Int), 0, 0⟩ (by omega) (may_of _ _ (⟨hK1, hK2, fun _ => tl0, fun h1 h2 h3 => absurd HKK.out h2, Nat.zero_le _, by rw [below3, HMK.out]; simp [BadP, prt]; try omega, fun h => absurd (HKK.out.symm.trans h) (by decide)⟩))
        refine (HX3.out.put ⟨K, ⟨#[]⟩, 9, (n : Int), 0, 0⟩ (wf_t K ⟨#[]⟩ 9 (n : Int) 0 0 (by decide) (by omega) (by omega) (by omega) (by omega) (by omega) (by omega) (by omega) (by omega) (by omega)) hp3).mono ?_
        rintro e w7 ⟨rfl, hX4⟩
        have HX4 := Lib.hid hX4
        clear hX4 HX3 HX2 z0 z1 z2 z3 z4 z5 f1 f2 f3 f4 f5
        go_wp2_with fail
        refine (fixed_any _).mono ?_
        rintro e w8 ⟨rfl, hb8⟩
        have hb9 := HX4.out.1.belowW.trans (hb8.mono HX4.out.1.base_le)
        clear hb8
        go_wp2
        go_ret
        exact ⟨rfl, hb9⟩
      · have hkb : (K == 9) = false := beq_eq_false_iff_ne.2 hk
        have hk2 : (K == 2) = false := beq_eq_false_iff_ne.2 (fun e => by have := HMK.out; rw [e] at this; exact absurd this (by decide))
        have hk10 : (K == 10) = false := beq_eq_false_iff_ne.2 (fun e => by have := HMK.out; rw [e] at this; exact absurd this (by decide))
        go_wp2_with fail
        have HX3 : Hid (PX w g1 g2 L2 L w3.heap.size #[.int .i64 K, .string ⟨#[]⟩, .int .u64 9, .int .i64 (n : Int), .int .i64 0, .int .i64 0] (w5.setCell ⟨w3.heap.size, 2, none⟩ (.int .u64 9))) := Lib.hid (HX2.out.set 2 (.int .u64 9))
        refine (HX3.out.put ⟨K, ⟨#[]⟩, 9, (n : Int), 0, 0⟩ (wf_t K ⟨#[]⟩ 9 (n : Int) 0 0 (by decide) (by omega) (by omega) (by omega) (by omega) (by omega) (by omega) (by omega) (by omega) (by omega)) (put_bad L2 ⟨K, ⟨#[]⟩, 9, (n : Int), 0, 0⟩ (fun hh => by
          have h9 := hh.2.2.2.1 (by simpa using hk2) (by simpa using hk) (by simpa using hk10)
          exact absurd h9 (show ¬ (9 : Int) = 0 by decide)))).mono ?_
        rintro e w7 ⟨rfl, hX4⟩
        have HX4 := Lib.hid hX4
        clear hX4 HX3 HX2 z0 z1 z2 z3 z4 z5 f1 f2 f3 f4 f5
        go_wp2_with fail
        refine (fixed_any _).mono ?_
        rintro e w8 ⟨rfl, hb8⟩
        have hb9 := HX4.out.1.belowW.trans (hb8.mono HX4.out.1.base_le)
        clear hb8
        go_wp2
        go_ret
        exact ⟨rfl, hb9⟩
    · have hkt : True := trivial
      go_wp2_with fail
      refine (HX2.out.1.lenP).mono ?_
      rintro e w6 ⟨rfl, rfl⟩
      go_wp2_with fail
      have HX3 : Hid (PX w g1 g2 L2 L w3.heap.size #[.int .i64 K, .string ⟨#[]⟩, .int .u64 0, .int .i64 ((L2.length : Int) + 1), .int .i64 0, .int .i64 0] (w5.setCell ⟨w3.heap.size, 3, none⟩ (.int .i64 ((L2.length : Int) + 1)))) := Lib.hid (HX2.out.set 3 (.int .i64 ((L2.length : Int) + 1)))
      refine (HX3.out.put ⟨K, ⟨#[]⟩, 0, ((L2.length : Int) + 1), 0, 0⟩ (wf_t K ⟨#[]⟩ 0 ((L2.length : Int) + 1) 0 0 (by decide) (by omega) (by omega) (by omega) (by omega) (by omega) (by omega) (by omega) (by omega) (by omega)) (put_bad L2 ⟨K, ⟨#[]⟩, 0, ((L2.length : Int) + 1), 0, 0⟩ (fun hh => by
        have h9 := hh.2.2.2.2.2.1 0 (by omega)
        apply h9
        rw [HMK.out]
        simp [BadP, prt]
        try omega))).mono ?_
      rintro e w7 ⟨rfl, hX4⟩
      have HX4 := Lib.hid hX4
      clear hX4 HX3 HX2 z0 z1 z2 z3 z4 z5 f1 f2 f3 f4 f5
      go_wp2_with fail
      refine (fixed_any _).mono ?_
      rintro e w8 ⟨rfl, hb8⟩
      have hb9 := HX4.out.1.belowW.trans (hb8.mono HX4.out.1.base_le)
      clear hb8
      go_wp2
      go_ret
      exact ⟨rfl, hb9⟩
    · have hkt : True := trivial
      go_wp2_with fail
      refine (HX2.out.1.lenP).mono ?_
      rintro e w6 ⟨rfl, rfl⟩
      go_wp2_with fail
      have HX3 : Hid (PX w g1 g2 L2 L w3.heap.size #[.int .i64 K, .string ⟨#[]⟩, .int .u64 0, .int .i64 (n : Int), .int .i64 ((L2.length : Int) + 5), .int .i64 0] (w5.setCell ⟨w3.heap.size, 4, none⟩ (.int .i64 ((L2.length : Int) + 5)))) := Lib.hid (HX2.out.set 4 (.int .i64 ((L2.length : Int) + 5)))
      refine (HX3.out.put ⟨K, ⟨#[]⟩, 0, (n : Int), ((L2.length : Int) + 5), 0⟩ (wf_t K ⟨#[]⟩ 0 (n : Int) ((L2.length : Int) + 5) 0 (by decide) (by omega) (by omega) (by omega) (by omega) (by omega) (by omega) (by omega) (by omega) (by omega)) (put_bad L2 ⟨K, ⟨#[]⟩, 0, (n : Int), ((L2.length : Int) + 5), 0⟩ (fun hh => by
        have h9 := hh.2.2.2.2.2.1 1 (by omega)
        apply h9
        rw [HMK.out]
        simp [BadP, prt]
        try omega))).mono ?_
      rintro e w7 ⟨rfl, hX4⟩
      have HX4 := Lib.hid hX4
      clear hX4 HX3 HX2 z0 z1 z2 z3 z4 z5 f1 f2 f3 f4 f5
      go_wp2_with fail
      refine (fixed_any _).mono ?_
      rintro e w8 ⟨rfl, hb8⟩
      have hb9 := HX4.out.1.belowW.trans (hb8.mono HX4.out.1.base_le)
      clear hb8
      go_wp2
      go_ret
      exact ⟨rfl, hb9⟩
    · have hkt : True := trivial
      go_wp2_with fail
      have HX3 : Hid (PX w g1 g2 L2 L w3.heap.size #[.int .i64 K, .string ⟨#[]⟩, .int .u64 0, .int .i64 (n : Int), .int .i64 0, .int .i64 (-1)] (w5.setCell ⟨w3.heap.size, 5, none⟩ (.int .i64 (-1)))) := Lib.hid (HX2.out.set 5 (.int .i64 (-1)))
      refine (HX3.out.put ⟨K, ⟨#[]⟩, 0, (n : Int), 0, (-1)⟩ (wf_t K ⟨#[]⟩ 0 (n : Int) 0 (-1) (by decide) (by omega) (by omega) (by omega) (by omega) (by omega) (by omega) (by omega) (by omega) (by omega)) (put_bad L2 ⟨K, ⟨#[]⟩, 0, (n : Int), 0, (-1)⟩ (fun hh => by
        have h9 := hh.2.2.2.2.2.1 2 (by omega)
        apply h9
        rw [HMK.out]
        simp [BadP, prt]
        try omega))).mono ?_
      rintro e w7 ⟨rfl, hX4⟩
      have HX4 := Lib.hid hX4
      clear hX4 HX3 HX2 z0 z1 z2 z3 z4 z5 f1 f2 f3 f4 f5
      go_wp2_with fail
      refine (fixed_any _).mono ?_
      rintro e w8 ⟨rfl, hb8⟩
      have hb9 := HX4.out.1.belowW.trans (hb8.mono HX4.out.1.base_le)
      clear hb8
      go_wp2
      go_ret
      exact ⟨rfl, hb9⟩
  · have hp : ∃ aP, partsV bb K = .slice aP 2 2 := by
      unfold partsV
      rw [if_neg (by omega), hmk]
      exact ⟨_, rfl⟩
    obtain ⟨aP, hp⟩ := hp
    rw [hp]
    have HMK := Lib.hid hmk
    clear hp hmk
    have z0 := (HX1.out.at 0).1
    have z1 := (HX1.out.at 1).1
    have z2 := (HX1.out.at 2).1
    have z3 := (HX1.out.at 3).1
    have z4 := (HX1.out.at 4).1
    have z5 := (HX1.out.at 5).1
    simp at z0 z1 z2 z3 z4 z5
    have f1 := (HX1.out.at 1).2
    have f2 := (HX1.out.at 2).2
    have f3 := (HX1.out.at 3).2
    have f4 := (HX1.out.at 4).2
    have f5 := (HX1.out.at 5).2
    go_wp2_with fail
    refine (HX1.out.1.lenP).mono ?_
    rintro e w6 ⟨rfl, rfl⟩
    rw [hn]
    go_wp2_with fail
    have HXa : Hid (PX w g1 g2 L1 L w3.heap.size #[.int .i64 K, .string ⟨#[]⟩, .int .u64 0, .int .i64 (n : Int), .int .i64 (n : Int), .int .i64 0] ((w4.setCell ⟨w3.heap.size, 3, none⟩ (.int .i64 (n : Int))).setCell ⟨w3.heap.size, 4, none⟩ (.int .i64 (n : Int)))) := Lib.hid ((HX1.out.set 3 (.int .i64 (n : Int))).set 4 (.int .i64 (n : Int)))
    have hmay : May L1.length K ⟨#[]⟩ 0 (n : Int) (n : Int) 0 := by
      have hm2 := HMK.out
      refine ⟨hK1, hK2, fun _ => tl0, fun _ _ _ => rfl, Nat.zero_le _, ?_, fun h => Int.le_refl _⟩
      rw [below3, hm2]
      simp [BadP, prt]
      try omega
    obtain ⟨nm2, L2, hp2, hl1, hl2, _⟩ := put_ok L1 ⟨K, ⟨#[]⟩, 0, (n : Int), (n : Int), 0⟩ (by omega) (may_of _ _ hmay)
    refine (HXa.out.put ⟨K, ⟨#[]⟩, 0, (n : Int), (n : Int), 0⟩ (wf_t K ⟨#[]⟩ 0 (n : Int) (n : Int) 0 (by decide) (by omega) (by omega) (by omega) (by omega) (by omega) (by omega) (by omega) (by omega) (by omega)) hp2).mono ?_
    rintro e w5 ⟨rfl, hX2⟩
    have HX2 := Lib.hid hX2
    clear hX2 HXa HX1 hp2 hmay z0 z1 z2 z3 z4 z5 f1 f2 f3 f4 f5
    have z0 := (HX2.out.at 0).1
    have z1 := (HX2.out.at 1).1
    have z2 := (HX2.out.at 2).1
    have z3 := (HX2.out.at 3).1
    have z4 := (HX2.out.at 4).1
    have z5 := (HX2.out.at 5).1
    simp at z0 z1 z2 z3 z4 z5
    have f1 := (HX2.out.at 1).2
    have f2 := (HX2.out.at 2).2
    have f3 := (HX2.out.at 3).2
    have f4 := (HX2.out.at 4).2
    have f5 := (HX2.out.at 5).2
    have hL2 : (L2.length : Int) ≤ 13 := by omega
    have hL20 : (0 : Int) ≤ (L2.length : Int) := by omega
    have d1 : decide ((1 : Int) ≤ (n : Int)) = true := decide_eq_true (by omega)
    rcases hr5 with hr | hr | hr | hr | hr
    · have hk : K ≠ 1 := fun e => by have := HMK.out; rw [e] at this; exact absurd this (by decide)
      have hkb : (K == 1) = false := beq_eq_false_iff_ne.2 hk
      go_wp2_with fail
      have HX3 : Hid (PX w g1 g2 L2 L w3.heap.size #[.int .i64 K, .string ⟨#[120]⟩, .int .u64 0, .int .i64 (n : Int), .int .i64 (n : Int), .int .i64 0] (w5.setCell ⟨w3.heap.size, 1, none⟩ (.string ⟨#[120]⟩))) := Lib.hid (HX2.out.set 1 (.string ⟨#[120]⟩))
      refine (HX3.out.put ⟨K, ⟨#[120]⟩, 0, (n : Int), (n : Int), 0⟩ (wf_t K ⟨#[120]⟩ 0 (n : Int) (n : Int) 0 (by decide) (by omega) (by omega) (by omega) (by omega) (by omega) (by omega) (by omega) (by omega) (by omega)) (put_bad L2 ⟨K, ⟨#[120]⟩, 0, (n : Int), (n : Int), 0⟩ (fun hh => x_ne (hh.2.2.1 hk)))).mono ?_
      rintro e w7 ⟨rfl, hX4⟩
      have HX4 := Lib.hid hX4
      clear hX4 HX3 HX2 z0 z1 z2 z3 z4 z5 f1 f2 f3 f4 f5
      go_wp2_with fail
      refine (fixed_any _).mono ?_
      rintro e w8 ⟨rfl, hb8⟩
      have hb9 := HX4.out.1.belowW.trans (hb8.mono HX4.out.1.base_le)
      clear hb8
      go_wp2
      go_ret
      exact ⟨rfl, hb9⟩
    · have hkt : True := trivial
      have hk2 : (K == 2) = false := beq_eq_false_iff_ne.2 (fun e => by have := HMK.out; rw [e] at this; exact absurd this (by decide))
      have hk9 : (K == 9) = false := beq_eq_false_iff_ne.2 (fun e => by have := HMK.out; rw [e] at this; exact absurd this (by decide))
      have hk10 : (K == 10) = false := beq_eq_false_iff_ne.2 (fun e => by have := HMK.out; rw [e] at this; exact absurd this (by decide))
      go_wp2_with fail
      have HX3 : Hid (PX w g1 g2 L2 L w3.heap.size #[.int .i64 K, .string ⟨#[]⟩, .int .u64 9, .int .i64 (n : Int), .int .i64 (n : Int), .int .i64 0] (w5.setCell ⟨w3.heap.size, 2, none⟩ (.int .u64 9))) := Lib.hid (HX2.out.set 2 (.int .u64 9))
      refine (HX3.out.put ⟨K, ⟨#[]⟩, 9, (n : Int), (n : Int), 0⟩ (wf_t K ⟨#[]⟩ 9 (n : Int) (n : Int) 0 (by decide) (by omega) (by omega) (by omega) (by omega) (by omega) (by omega) (by omega) (by omega) (by omega)) (put_bad L2 ⟨K, ⟨#[]⟩, 9, (n : Int), (n : Int), 0⟩ (fun hh => by
        have h9 := hh.2.2.2.1 (by simpa using hk2) (by simpa using hk9) (by simpa using hk10)
        exact absurd h9 (show ¬ (9 : Int) = 0 by decide)))).mono ?_
      rintro e w7 ⟨rfl, hX4⟩
      have HX4 := Lib.hid hX4
      clear hX4 HX3 HX2 z0 z1 z2 z3 z4 z5 f1 f2 f3 f4 f5
      go_wp2_with fail
      refine (fixed_any _).mono ?_
      rintro e w8 ⟨rfl, hb8⟩
      have hb9 := HX4.out.1.belowW.trans (hb8.mono HX4.out.1.base_le)
      clear hb8
      go_wp2
      go_ret
      exact ⟨rfl, hb9⟩
    · have hkt : True := trivial
      go_wp2_with fail
      refine (HX2.out.1.lenP).mono ?_
      rintro e w6 ⟨rfl, rfl⟩
      go_wp2_with fail
      have HX3 : Hid (PX w g1 g2 L2 L w3.heap.size #[.int .i64 K, .string ⟨#[]⟩, .int .u64 0, .int .i64 ((L2.length : Int) + 1), .int .i64 (n : Int), .int .i64 0] (w5.setCell ⟨w3.heap.size, 3, none⟩ (.int .i64 ((L2.length : Int) + 1)))) := Lib.hid (HX2.out.set 3 (.int .i64 ((L2.length : Int) + 1)))
      refine (HX3.out.put ⟨K, ⟨#[]⟩, 0, ((L2.length : Int) + 1), (n : Int), 0⟩ (wf_t K ⟨#[]⟩ 0 ((L2.length : Int) + 1) (n : Int) 0 (by decide) (by omega) (by omega) (by omega) (by omega) (by omega) (by omega) (by omega) (by omega) (by omega)) (put_bad L2 ⟨K, ⟨#[]⟩, 0, ((L2.length : Int) + 1), (n : Int), 0⟩ (fun hh => by
        have h9 := hh.2.2.2.2.2.1 0 (by omega)
        apply h9
        rw [HMK.out]
        simp [BadP, prt]
        try omega))).mono ?_
      rintro e w7 ⟨rfl, hX4⟩
      have HX4 := Lib.hid hX4
      clear hX4 HX3 HX2 z0 z1 z2 z3 z4 z5 f1 f2 f3 f4 f5
      go_wp2_with fail
      refine (fixed_any _).mono ?_
      rintro e w8 ⟨rfl, hb8⟩
      have hb9 := HX4.out.1.belowW.trans (hb8.mono HX4.out.1.base_le)
      clear hb8
      go_wp2
      go_ret
      exact ⟨rfl, hb9⟩
    · have hkt : True := trivial
      go_wp2_with fail
      refine (HX2.out.1.lenP).mono ?_
      rintro e w6 ⟨rfl, rfl⟩
      go_wp2_with fail
      have HX3 : Hid (PX w g1 g2 L2 L w3.heap.size #[.int .i64 K, .string ⟨#[]⟩, .int .u64 0, .int .i64 (n : Int), .int .i64 ((L2.length : Int) + 5), .int .i64 0] (w5.setCell ⟨w3.heap.size, 4, none⟩ (.int .i64 ((L2.length : Int) + 5)))) := Lib.hid (HX2.out.set 4 (.int .i64 ((L2.length : Int) + 5)))
      refine (HX3.out.put ⟨K, ⟨#[]⟩, 0, (n : Int), ((L2.length : Int) + 5), 0⟩ (wf_t K ⟨#[]⟩ 0 (n : Int) ((L2.length : Int) + 5) 0 (by decide) (by omega) (by omega) (by omega) (by omega) (by omega) (by omega) (by omega) (by omega) (by omega)) (put_bad L2 ⟨K, ⟨#[]⟩, 0, (n : Int), ((L2.length : Int) + 5), 0⟩ (fun hh => by
        have h9 := hh.2.2.2.2.2.1 1 (by omega)
        apply h9
        rw [HMK.out]
        simp [BadP, prt]
        try omega))).mono ?_
      rintro e w7 ⟨rfl, hX4⟩
      have HX4 := Lib.hid hX4
      clear hX4 HX3 HX2 z0 z1 z2 z3 z4 z5 f1 f2 f3 f4 f5
      go_wp2_with fail
      refine (fixed_any _).mono ?_
      rintro e w8 ⟨rfl, hb8⟩
      have hb9 := HX4.out.1.belowW.trans (hb8.mono HX4.out.1.base_le)
      clear hb8
      go_wp2
      go_ret
      exact ⟨rfl, hb9⟩
    · have hkt : True := trivial
      go_wp2_with fail
      have HX3 : Hid (PX w g1 g2 L2 L w3.heap.size #[.int .i64 K, .string ⟨#[]⟩, .int .u64 0, .int .i64 (n : Int), .int .i64 (n : Int), .int .i64 (-1)] (w5.setCell ⟨w3.heap.size, 5, none⟩ (.int .i64 (-1)))) := Lib.hid (HX2.out.set 5 (.int .i64 (-1)))
      refine (HX3.out.put ⟨K, ⟨#[]⟩, 0, (n : Int), (n : Int), (-1)⟩ (wf_t K ⟨#[]⟩ 0 (n : Int) (n : Int) (-1) (by decide) (by omega) (by omega) (by omega) (by omega) (by omega) (by omega) (by omega) (by omega) (by omega)) (put_bad L2 ⟨K, ⟨#[]⟩, 0, (n : Int), (n : Int), (-1)⟩ (fun hh => by
        have h9 := hh.2.2.2.2.2.1 2 (by omega)
        apply h9
        rw [HMK.out]
        simp [BadP, prt]
        try omega))).mono ?_
      rintro e w7 ⟨rfl, hX4⟩
      have HX4 := Lib.hid hX4
      clear hX4 HX3 HX2 z0 z1 z2 z3 z4 z5 f1 f2 f3 f4 f5
      go_wp2_with fail
      refine (fixed_any _).mono ?_
      rintro e w8 ⟨rfl, hb8⟩
      have hb9 := HX4.out.1.belowW.trans (hb8.mono HX4.out.1.base_le)
      clear hb8
      go_wp2
      go_ret
      exact ⟨rfl, hb9⟩
  · have hp : ∃ aP, partsV bb K = .slice aP 3 3 := by
      unfold partsV
      rw [if_neg (by omega), hmk]
      exact ⟨_, rfl⟩
    obtain ⟨aP, hp⟩ := hp
    rw [hp]
    have HMK := Lib.hid hmk
    clear hp hmk
    have z0 := (HX1.out.at 0).1
    have z1 := (HX1.out.at 1).1
    have z2 := (HX1.out.at 2).1
    have z3 := (HX1.out.at 3).1
    have z4 := (HX1.out.at 4).1
    have z5 := (HX1.out.at 5).1
    simp at z0 z1 z2 z3 z4 z5
    have f1 := (HX1.out.at 1).2
    have f2 := (HX1.out.at 2).2
    have f3 := (HX1.out.at 3).2
    have f4 := (HX1.out.at 4).2
    have f5 := (HX1.out.at 5).2
    go_wp2_with fail
    refine (HX1.out.1.lenP).mono ?_
    rintro e w6 ⟨rfl, rfl⟩
    rw [hn]
    go_wp2_with fail
    have HXa : Hid (PX w g1 g2 L1 L w3.heap.size #[.int .i64 K, .string ⟨#[]⟩, .int .u64 0, .int .i64 (n : Int), .int .i64 (n : Int), .int .i64 (n : Int)] (((w4.setCell ⟨w3.heap.size, 3, none⟩ (.int .i64 (n : Int))).setCell ⟨w3.heap.size, 4, none⟩ (.int .i64 (n : Int))).setCell ⟨w3.heap.size, 5, none⟩ (.int .i64 (n : Int)))) := Lib.hid (((HX1.out.set 3 (.int .i64 (n : Int))).set 4 (.int .i64 (n : Int))).set 5 (.int .i64 (n : Int)))
    have hmay : May L1.length K ⟨#[]⟩ 0 (n : Int) (n : Int) (n : Int) := by
      have hm2 := HMK.out
      refine ⟨hK1, hK2, fun _ => tl0, fun _ _ _ => rfl, Nat.zero_le _, ?_, fun h => (by rw [h] at hm2; exact absurd hm2 (by decide))⟩
      rw [below3, hm2]
      simp [BadP, prt]
      try omega
    obtain ⟨nm2, L2, hp2, hl1, hl2, _⟩ := put_ok L1 ⟨K, ⟨#[]⟩, 0, (n : Int), (n : Int), (n : Int)⟩ (by omega) (may_of _ _ hmay)
    refine (HXa.out.put ⟨K, ⟨#[]⟩, 0, (n : Int), (n : Int), (n : Int)⟩ (wf_t K ⟨#[]⟩ 0 (n : Int) (n : Int) (n : Int) (by decide) (by omega) (by omega) (by omega) (by omega) (by omega) (by omega) (by omega) (by omega) (by omega)) hp2).mono ?_
    rintro e w5 ⟨rfl, hX2⟩
    have HX2 := Lib.hid hX2
    clear hX2 HXa HX1 hp2 hmay z0 z1 z2 z3 z4 z5 f1 f2 f3 f4 f5
    have z0 := (HX2.out.at 0).1
    have z1 := (HX2.out.at 1).1
    have z2 := (HX2.out.at 2).1
    have z3 := (HX2.out.at 3).1
    have z4 := (HX2.out.at 4).1
    have z5 := (HX2.out.at 5).1
    simp at z0 z1 z2 z3 z4 z5
    have f1 := (HX2.out.at 1).2
    have f2 := (HX2.out.at 2).2
    have f3 := (HX2.out.at 3).2
    have f4 := (HX2.out.at 4).2
    have f5 := (HX2.out.at 5).2
    have hL2 : (L2.length : Int) ≤ 13 := by omega
    have hL20 : (0 : Int) ≤ (L2.length : Int) := by omega
    have d1 : decide ((1 : Int) ≤ (n : Int)) = true := decide_eq_true (by omega)
    rcases hr5 with hr | hr | hr | hr | hr
    · have hk : K ≠ 1 := fun e => by have := HMK.out; rw [e] at this; exact absurd this (by decide)
      have hkb : (K == 1) = false := beq_eq_false_iff_ne.2 hk
      go_wp2_with fail
      have HX3 : Hid (PX w g1 g2 L2 L w3.heap.size #[.int .i64 K, .string ⟨#[120]⟩, .int .u64 0, .int .i64 (n : Int), .int .i64 (n : Int), .int .i64 (n : Int)] (w5.setCell ⟨w3.heap.size, 1, none⟩ (.string ⟨#[120]⟩))) := Lib.hid (HX2.out.set 1 (.string ⟨#[120]⟩))
      refine (HX3.out.put ⟨K, ⟨#[120]⟩, 0, (n : Int), (n : Int), (n : Int)⟩ (wf_t K ⟨#[120]⟩ 0 (n : Int) (n : Int) (n : Int) (by decide) (by omega) (by omega) (by omega) (by omega) (by omega) (by omega) (by omega) (by omega) (by omega)) (put_bad L2 ⟨K, ⟨#[120]⟩, 0, (n : Int), (n : Int), (n : Int)⟩ (fun hh => x_ne (hh.2.2.1 hk)))).mono ?_
      rintro e w7 ⟨rfl, hX4⟩
      have HX4 := Lib.hid hX4
      clear hX4 HX3 HX2 z0 z1 z2 z3 z4 z5 f1 f2 f3 f4 f5
      go_wp2_with fail
      refine (fixed_any _).mono ?_
      rintro e w8 ⟨rfl, hb8⟩
      have hb9 := HX4.out.1.belowW.trans (hb8.mono HX4.out.1.base_le)
      clear hb8
      go_wp2
      go_ret
      exact ⟨rfl, hb9⟩
    · by_cases hk : K = 10
      · have hkb : (K == 10) = true := beq_iff_eq.2 hk
        have HKK := Lib.hid hk
        clear hk
        have hk2 : (K == 2) = false := beq_eq_false_iff_ne.2 (fun e => by have := HMK.out; rw [e] at this; exact absurd this (by decide))
        have hk9 : (K == 9) = false := beq_eq_false_iff_ne.2 (fun e => by have := HMK.out; rw [e] at this; exact absurd this (by decide))
        go_wp2_with fail
        have HX3 : Hid (PX w g1 g2 L2 L w3.heap.size #[.int .i64 K, .string ⟨#[]⟩, .int .u64 9, .int .i64 (n : Int), .int .i64 (n : Int), .int .i64 (n : Int)] (w5.setCell ⟨w3.heap.size, 2, none⟩ (.int .u64 9))) := Lib.hid (HX2.out.set 2 (.int .u64 9))
        obtain ⟨nm3, L3, hp3, _, _, _⟩ := put_ok L2 ⟨K, ⟨#[]⟩, 9, (n : Int), (n : Int), (n : Int)⟩ (by omega) (may_of _ _ (⟨hK1, hK2, fun _ => tl0, fun h1 h2 h3 => absurd HKK.out h3, Nat.zero_le _, by rw [below3, HMK.out]; simp [BadP, prt]; try omega, fun h => absurd (HKK.out.symm.trans h) (by decide)⟩))
        refine (HX3.out.put ⟨K, ⟨#[]⟩, 9, (n : Int), (n : Int), (n : Int)⟩ (wf_t K ⟨#[]⟩ 9 (n : Int) (n : Int) (n : Int) (by decide) (by omega) (by omega) (by omega) (by omega) (by omega) (by omega) (by omega) (by omega) (by omega)) hp3).mono ?_
        rintro e w7 ⟨rfl, hX4⟩
        have HX4 := Lib.hid hX4
        clear hX4 HX3 HX2 z0 z1 z2 z3 z4 z5 f1 f2 f3 f4 f5
        go_wp2_with fail
        refine (fixed_any _).mono ?_
        rintro e w8 ⟨rfl, hb8⟩
        have hb9 := HX4.out.1.belowW.trans (hb8.mono HX4.out.1.base_le)
        clear hb8
        go_wp2
        go_ret
        exact ⟨rfl, hb9⟩
      · have hkb : (K == 10) = false := beq_eq_false_iff_ne.2 hk
        have hk2 : (K == 2) = false := beq_eq_false_iff_ne.2 (fun e => by have := HMK.out; rw [e] at this; exact absurd this (by decide))
        have hk9 : (K == 9) = false := beq_eq_false_iff_ne.2 (fun e => by have := HMK.out; rw [e] at this; exact absurd this (by decide))
        go_wp2_with fail
        have HX3 : Hid (PX w g1 g2 L2 L w3.heap.size #[.int .i64 K, .string ⟨#[]⟩, .int .u64 9, .int .i64 (n : Int), .int .i64 (n : Int), .int .i64 (n : Int)] (w5.setCell ⟨w3.heap.size, 2, none⟩ (.int .u64 9))) := Lib.hid (HX2.out.set 2 (.int .u64 9))
        refine (HX3.out.put ⟨K, ⟨#[]⟩, 9, (n : Int), (n : Int), (n : Int)⟩ (wf_t K ⟨#[]⟩ 9 (n : Int) (n : Int) (n : Int) (by decide) (by omega) (by omega) (by omega) (by omega) (by omega) (by omega) (by omega) (by omega) (by omega)) (put_bad L2 ⟨K, ⟨#[]⟩, 9, (n : Int), (n : Int), (n : Int)⟩ (fun hh => by
          have h9 := hh.2.2.2.1 (by simpa using hk2) (by simpa using hk9) (by simpa using hk)
          exact absurd h9 (show ¬ (9 : Int) = 0 by decide)))).mono ?_
        rintro e w7 ⟨rfl, hX4⟩
        have HX4 := Lib.hid hX4
        clear hX4 HX3 HX2 z0 z1 z2 z3 z4 z5 f1 f2 f3 f4 f5
        go_wp2_with fail
        refine (fixed_any _).mono ?_
        rintro e w8 ⟨rfl, hb8⟩
        have hb9 := HX4.out.1.belowW.trans (hb8.mono HX4.out.1.base_le)
        clear hb8
        go_wp2
        go_ret
        exact ⟨rfl, hb9⟩
    · have hkt : True := trivial
      go_wp2_with fail
      refine (HX2.out.1.lenP).mono ?_
      rintro e w6 ⟨rfl, rfl⟩
      go_wp2_with fail
      have HX3 : Hid (PX w g1 g2 L2 L w3.heap.size #[.int .i64 K, .string ⟨#[]⟩, .int .u64 0, .int .i64 ((L2.length : Int) + 1), .int .i64 (n : Int), .int .i64 (n : Int)] (w5.setCell ⟨w3.heap.size, 3, none⟩ (.int .i64 ((L2.length : Int) + 1)))) := Lib.hid (HX2.out.set 3 (.int .i64 ((L2.length : Int) + 1)))
      refine (HX3.out.put ⟨K, ⟨#[]⟩, 0, ((L2.length : Int) + 1), (n : Int), (n : Int)⟩ (wf_t K ⟨#[]⟩ 0 ((L2.length : Int) + 1) (n : Int) (n : Int) (by decide) (by omega) (by omega) (by omega) (by omega) (by omega) (by omega) (by omega) (by omega) (by omega)) (put_bad L2 ⟨K, ⟨#[]⟩, 0, ((L2.length : Int) + 1), (n : Int), (n : Int)⟩ (fun hh => by
        have h9 := hh.2.2.2.2.2.1 0 (by omega)
        apply h9
        rw [HMK.out]
        simp [BadP, prt]
        try omega))).mono ?_
      rintro e w7 ⟨rfl, hX4⟩
      have HX4 := Lib.hid hX4
      clear hX4 HX3 HX2 z0 z1 z2 z3 z4 z5 f1 f2 f3 f4 f5
      go_wp2_with fail
      refine (fixed_any _).mono ?_
      rintro e w8 ⟨rfl, hb8⟩
      have hb9 := HX4.out.1.belowW.trans (hb8.mono HX4.out.1.base_le)
      clear hb8
      go_wp2
      go_ret
      exact ⟨rfl, hb9⟩
    · have hkt : True := trivial
      go_wp2_with fail
      refine (HX2.out.1.lenP).mono ?_
      rintro e w6 ⟨rfl, rfl⟩
      go_wp2_with fail
      have HX3 : Hid (PX w g1 g2 L2 L w3.heap.size #[.int .i64 K, .string ⟨#[]⟩, .int .u64 0, .int .i64 (n : Int), .int .i64 ((L2.length : Int) + 5), .int .i64 (n : Int)] (w5.setCell ⟨w3.heap.size, 4, none⟩ (.int .i64 ((L2.length : Int) + 5)))) := Lib.hid (HX2.out.set 4 (.int .i64 ((L2.length : Int) + 5)))
      refine (HX3.out.put ⟨K, ⟨#[]⟩, 0, (n : Int), ((L2.length : Int) + 5), (n : Int)⟩ (wf_t K ⟨#[]⟩ 0 (n : Int) ((L2.length : Int) + 5) (n : Int) (by decide) (by omega) (by omega) (by omega) (by omega) (by omega) (by omega) (by omega) (by omega) (by omega)) (put_bad L2 ⟨K, ⟨#[]⟩, 0, (n : Int), ((L2.length : Int) + 5), (n : Int)⟩ (fun hh => by
        have h9 := hh.2.2.2.2.2.1 1 (by omega)
        apply h9
        rw [HMK.out]
        simp [BadP, prt]
        try omega))).mono ?_
      rintro e w7 ⟨rfl, hX4⟩
      have HX4 := Lib.hid hX4
      clear hX4 HX3 HX2 z0 z1 z2 z3 z4 z5 f1 f2 f3 f4 f5
      go_wp2_with fail
      refine (fixed_any _).mono ?_
      rintro e w8 ⟨rfl, hb8⟩
      have hb9 := HX4.out.1.belowW.trans (hb8.mono HX4.out.1.base_le)
      clear hb8
      go_wp2
      go_ret
      exact ⟨rfl, hb9⟩
    · have hkt : True := trivial
      go_wp2_with fail
      have HX3 : Hid (PX w g1 g2 L2 L w3.heap.size #[.int .i64 K, .string ⟨#[]⟩, .int .u64 0, .int .i64 (n : Int), .int .i64 (n : Int), .int .i64 (-1)] (w5.setCell ⟨w3.heap.size, 5, none⟩ (.int .i64 (-1)))) := Lib.hid (HX2.out.set 5 (.int .i64 (-1)))
      refine (HX3.out.put ⟨K, ⟨#[]⟩, 0, (n : Int), (n : Int), (-1)⟩ (wf_t K ⟨#[]⟩ 0 (n : Int) (n : Int) (-1) (by decide) (by omega) (by omega) (by omega) (by omega) (by omega) (by omega) (by omega) (by omega) (by omega)) (put_bad L2 ⟨K, ⟨#[]⟩, 0, (n : Int), (n : Int), (-1)⟩ (fun hh => by
        have h9 := hh.2.2.2.2.2.1 2 (by omega)
        apply h9
        rw [HMK.out]
        simp [BadP, prt]
        try omega))).mono ?_
      rintro e w7 ⟨rfl, hX4⟩
      have HX4 := Lib.hid hX4
      clear hX4 HX3 HX2 z0 z1 z2 z3 z4 z5 f1 f2 f3 f4 f5
      go_wp2_with fail
      refine (fixed_any _).mono ?_
      rintro e w8 ⟨rfl, hb8⟩
      have hb9 := HX4.out.1.belowW.trans (hb8.mono HX4.out.1.base_le)
      clear hb8
      go_wp2
      go_ret
      exact ⟨rfl, hb9⟩

theorem walk (a0 : Option Addr) (len0 cap0 : Nat) (T0 : Nat → Tm) (a1 a2 : Int) (w : World) (w0 : Terms w a0 len0 cap0 T0) (w1 : (Lit.int .u8 a1).wf = true) (w2 : (Lit.int .u8 a2).wf = true) :
    Calls Try.prog 5 #[.slice a0 len0 cap0, .int .u8 a1, .int .u8 a2] w fun e w' => e = .returned (.bool true) ∧ Below w.heap.size w w' := by
  have e1 : IntKind.u8.min = 0 := by decide
  have e2 : IntKind.u8.max = 255 := by decide
  simp only [Lit.wf, e1, e2, Bool.and_eq_true, decide_eq_true_eq] at w1 w2
  obtain ⟨n1, rfl⟩ := Int.eq_ofNat_of_zero_le w1.1
  obtain ⟨n2, rfl⟩ := Int.eq_ofNat_of_zero_le w2.1
  have t1 : (n1 : Int).tmod 11 = ((n1 % 11 : Nat) : Int) := by rw [Int.tmod_eq_emod_of_nonneg (by omega)]; omega
  have t2 : (n2 : Int).tmod 5 = ((n2 % 5 : Nat) : Int) := by rw [Int.tmod_eq_emod_of_nonneg (by omega)]; omega
  exact walkN a0 len0 cap0 T0 n1 n2 (n1 % 11) w w0 (by omega) (by omega) t1 (by omega) (by rw [t2]; omega)

set_option maxRecDepth 100000 in
theorem lifted (os : Os) (started : os.Started) (H : Type) (enc : TypeId × Value → H) :
    ReturnsInHanded {} Try.checked os 5 .any (Rows.termFieldsSpec.pre6 enc Try.prog Try.f5 Rows.termFieldsRow.domain false) (Rows.termFieldsSpec.post enc Try.prog Try.f5 false true false false) := by
  refine returnsInHanded_of_change (C := Try.checked) own started (by kernel_rfl) Try.func5
    (ChangeSpec.witness6 (enc := enc) (C := Try.checked) false ⟨#[], #[.slice none 0 0, .int .u8 0, .int .u8 0], []⟩ 8 (by kernel_rfl) (by kernel_rfl) (by kernel_rfl) (by kernel_rfl)) ?_
  intro W base args ds gs before hval0 hW hcnd _
  have hval : ∀ (j : Nat) t v, Try.f5.params[j]? = some t → args[j]? = some v → Value.okWide Try.prog W .any base t v := hval0
  have hW' := hW
  obtain ⟨p, q, hA0, hV, rfl, hfz, hnd⟩ := hW
  have hA : DataW.TrodAll enc Try.prog W 0 (fun _ => true) true Try.f5.params.toList args.toList ds p := hA0
  rw [Try.params5] at hA hval
  obtain ⟨v0, vs0, d0, ds0, p0, q0, hargs, rfl, rfl, h0, r0⟩ := trodAll_cons hA
  obtain ⟨v1, vs1, d1, ds1, p1, q1, rfl, rfl, rfl, h1, r1⟩ := trodAll_cons r0
  obtain ⟨v2, vs2, d2, ds2, p2, q2, rfl, rfl, rfl, h2, r2⟩ := trodAll_cons r1
  obtain ⟨rfl, rfl, rfl⟩ := trodAll_nil r2
  obtain rfl : args = #[v0, v1, v2] := by cases args; simp_all
  obtain ⟨rfl, rfl⟩ := trodVars_none hV
  obtain ⟨a0, len0, cap0, rfl⟩ := okWide_slice Try.underlying22 (hval 0 22 v0 rfl rfl)
  have k0 := h0
  have lt0 : ∀ x ∈ p0, x.block < W.heap.size := by obtain ⟨m, hm⟩ := k0; exact DataW.trod_lt m _ _ _ hm
  obtain ⟨T0, w0⟩ : ∃ T, Terms W a0 len0 cap0 T := by
    obtain ⟨fuel, hf⟩ := h0
    exact open_terms (by simpa [Value.cells] using hf)
  obtain ⟨a1, rfl, rfl, rfl, w1⟩ := open_int Try.underlying5 (hval 1 5 v1 rfl rfl) h1
  obtain ⟨a2, rfl, rfl, rfl, w2⟩ := open_int Try.underlying5 (hval 2 5 v2 rfl rfl) h2
  clear hA0 hval0
  refine (walk a0 len0 cap0 T0 a1 a2 W w0 w1 w2).mono fun e W' ⟨he, bel⟩ => ?_
  subst he
  exact ⟨_, rfl, _, _, _, [], _, [], hW', trodAll_mk1 (shut_bool Try.underlying4 _), (trodAll_cons_mk (Below.trod laidOut (by kernel_rfl) (of_decide_eq_true (by kernel_rfl)) k0 bel lt0) (trodAll_cons_mk (shut_int Try.underlying5 w1) (trodAll_cons_mk (shut_int Try.underlying5 w2) trodAll_mk0))), rfl, bel.frame _, fun h => by cases h⟩

theorem over : Rows.termFieldsRow.holds Try.pinned (OpenSpec.ofChange Rows.termFieldsSpec) :=
  OpenClaim.holds_of_wide 5 Try.f5 rfl rfl rfl rfl rfl rfl rfl ⟨rfl, rfl, rfl, rfl, rfl⟩ rfl rfl rfl rfl rfl (by kernel_rfl) Try.func5 (by kernel_rfl)
    (of_decide_eq_true (by kernel_rfl)) (by unfold Func.isWrapper; first | (rw [if_pos (by decide +kernel)]; kernel_rfl) | (rw [if_neg (by decide +kernel)]; exact ⟨rfl, rfl⟩))
    (fun os started H enc _ => lifted os started H enc)

theorem proved : Rows.TermFieldsSaid := over
#print axioms proved
end Go.Proofs.Ytbmbglbbojacpaa.termFields
