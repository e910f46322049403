/- KdfTells: for every row of terms and of three numbers, what any two hash to, which keys are derived, mixed, and in chains, or what is wrong, is as the document says. No condition. -/
import Derived.Test.YtglgobimdghehaaRows
import Derived.Test.YtglgobimdghehaaKdfF
import Derived.Test.YtglgobimdghehaaKdfM
import Derived.Test.YtglgobimdghehaaSameL
import Derived.Test.YtglgobimdghehaaOpens
import Derived.WalkKit
import Derived.ProofKit
import Derived.OpenShut
import Derived.ShutString
import Derived.ChangeOld
import Derived.Below
namespace Go.Proofs.Ytglgobimdghehaa.kdfTells
open Go.ChangeShapes Go.WideShapes Go.ChangeAt Go.RowKit
open Go.ChangeMaps (open_string shut_string)
open Go.Proofs.Ytglgobimdghehaa
set_option linter.unusedVariables false
set_option linter.unusedSimpArgs false

theorem own : ownKnob Try.prog.godebug = none := by kernel_rfl
theorem laidOut : laidOutB Try.prog = true := by kernel_rfl

def J (K : Nat → Prop) (w : World) (g1 g2 : Nat) (L L' : List Tm) (W : World) : Prop := Pair w.heap.size (PSq w.heap.size g1 1000) (RSq w.heap.size g2 1000) L L' K w W
theorem J.below {K : Nat → Prop} {w : World} {g1 g2 : Nat} {L L' : List Tm} {W W' : World} (hb : Below W.heap.size W W') (h : Hid (J K w g1 g2 L L' W)) : Hid (J K w g1 g2 L L' W') :=
  Lib.hid (Pair.below (PSq.good w.heap.size g1 1000) (RSq.good w.heap.size g2 1000) h.out hb)
def No : Nat → Prop := fun _ => False
def At (b : Nat) : Nat → Prop := fun k => No k ∨ k = b

set_option maxHeartbeats 8000000 in
set_option maxRecDepth 100000 in
theorem walk (most : Int) (a0 : Option Addr) (len0 cap0 : Nat) (T0 : Nat → Tm) (a1 : Option Addr) (len1 cap1 : Nat) (Z1 : Nat → Nat → Int) (w : World) (wm : (Lit.int .i64 most).wf = true) (w0 : Terms w a0 len0 cap0 T0) (w1 : Arrs .i64 3 w a1 len1 cap1 Z1) :
    Calls Try.prog 3 #[.int .i64 most, .slice a0 len0 cap0, .slice a1 len1 cap1] w fun e w' => e = .returned (.bool true) ∧ Below w.heap.size w w' := by
  have HT0 := Lib.hid w0
  have HWM := Lib.hid wm
  obtain ⟨hcm, hlc, b, off, hz⟩ := w1
  have HZ := Lib.hid hz
  unfold maxLen at hcm
  clear w0 hz wm
  have gR := fun g => RSq.good w.heap.size g 1000
  have gP := fun g => PSq.good w.heap.size g 1000
  go_enter Try.func3, Try.ntmps3
  go_wp2_with fail
  refine (stores_any 30 a0 len0 cap0 T0 _ (by omega) HT0.out).mono ?_
  rintro e w1 ⟨g1, g2, L, rfl, hL, hp⟩
  have HP0 : Hid (J No w g1 g2 L L w1) := Lib.hid hp
  clear hp hL HT0
  go_wp2_with fail
  go_loopw [9] (fun i wr => ∃ k, ∃ L : List Tm, k ≤ 12 ∧ i = .int .i64 (k : Nat) ∧ Hid (J No w g1 g2 L L wr)) (fun i _ => 12 - (intOf i).toNat)
  case atStart => exact ⟨0, L, Nat.zero_le _, rfl, HP0⟩
  case round =>
    clear HP0 L
    obtain ⟨k, L, hk, rfl, HP⟩ := hrel
    by_cases hlt : k < len1
    · have hlt1 : (k : Int) < (len1 : Int) := by omega
      by_cases h20 : k < 12
      · have h21 : (k : Int) < 12 := by omega
        obtain ⟨rfl, hcl⟩ := HZ.out k hlt
        obtain ⟨q0, wf0⟩ := hcl 0 (by omega)
        obtain ⟨q1, wf1⟩ := hcl 1 (by omega)
        obtain ⟨q2, wf2⟩ := hcl 2 (by omega)
        have hbw : b < w.heap.size := block_lt_of_cell q0
        obtain ⟨u0, hu0⟩ : ∃ u, u = Z1 k 0 := ⟨_, rfl⟩
        rw [← hu0] at q0 wf0
        rw [← HP.out.belowW.cell (by exact hbw)] at q0
        have WU0 : Hid (I64 u0) := Lib.hid wf0
        obtain ⟨u1, hu1⟩ : ∃ u, u = Z1 k 1 := ⟨_, rfl⟩
        rw [← hu1] at q1 wf1
        rw [← HP.out.belowW.cell (by exact hbw)] at q1
        have WU1 : Hid (I64 u1) := Lib.hid wf1
        obtain ⟨u2, hu2⟩ : ∃ u, u = Z1 k 2 := ⟨_, rfl⟩
        rw [← hu2] at q2 wf2
        rw [← HP.out.belowW.cell (by exact hbw)] at q2
        have WU2 : Hid (I64 u2) := Lib.hid wf2
        have q0 : wr.cell? ⟨b, off + k * 3, none⟩ = some (.int .i64 u0) := q0
        obtain ⟨n, hn⟩ : ∃ n, n = IntKind.u64.wrap u1 := ⟨_, rfl⟩
        have HN : Hid (U64 n) := Lib.hid (by rw [hn]; exact wf_wrap .u64 u1)
        obtain ⟨lb, hlb⟩ : ∃ lb, lb = IntKind.u64.wrap (bits BinOp.and IntKind.i64 most 3) := ⟨_, rfl⟩
        have HLB : Hid (U64 lb) := Lib.hid (by rw [hlb]; exact wf_wrap .u64 _)
        have Hk := Lib.hid h20
        clear hu0 wf0 hu1 wf1 hu2 wf2 hcl hk h20
        by_cases h200 : 20 < u2
        · by_cases h1000 : u2 ≤ 1000
          · have h201 := h200
            have h1001 := h200
            clear h200
            obtain ⟨tm, htm⟩ : ∃ tm, tm = u2 % 20 := ⟨_, rfl⟩
            have HTM := Lib.hid htm
            obtain ⟨a, e1, L1, hf0⟩ : ∃ a e M, putF L 1000 (hashT u0 u1) = (a, e, M) := ⟨_, _, _, rfl⟩
            have HF0 := Lib.hid hf0
            obtain ⟨c, e2, L2, hf1⟩ : ∃ a e M, putF L1 1000 (keyT u0 n) = (a, e, M) := ⟨_, _, _, rfl⟩
            have HF1 := Lib.hid hf1
            obtain ⟨u, v, e3, L3, hf2⟩ : ∃ a b e M, mixF L2 1000 u0 u1 = (a, b, e, M) := ⟨_, _, _, _, rfl⟩
            have HF2 := Lib.hid hf2
            obtain ⟨p, e4, L4, hf3⟩ : ∃ a e M, chainF L3 1000 u0 lb tm = (a, e, M) := ⟨_, _, _, rfl⟩
            have HF3 := Lib.hid hf3
            clear hf0 hf1 hf2 hf3
            have HB : Hid (J (At wr.heap.size) w g1 g2 L L (wr.alloc (.cells #[.int .i64 u0, .int .i64 u1, .int .i64 u2] 28))) := Lib.hid (Pair.box (gP g1) (gR g2) HP.out (.cells #[.int .i64 u0, .int .i64 u1, .int .i64 u2] 28))
            have hbx := heap_alloc_new wr (.cells #[.int .i64 u0, .int .i64 u1, .int .i64 u2] 28)
            have HX := Lib.hid hbx
            clear hbx HP
            go_wp2_with fail
            clear q0 q1 q2
            rw [← htm]
            clear htm h1000 h1001 h201
            refine ((HB.out).hashP (gR g2) WU0.out WU1.out HF0.out).mono ?_
            rintro e w2 ⟨rfl, hp, hk⟩
            have HB2 : Hid (J (At wr.heap.size) w g1 g2 L1 L w2) := Lib.hid hp
            have HX2 := Lib.hid ((hk _ (.inr rfl)).trans HX.out)
            clear hp hk HB HX
            have z0 := cell_of_row w2 _ 0 _ _ _ HX2.out
            have z1 := cell_of_row w2 _ 1 _ _ _ HX2.out
            have z2 := cell_of_row w2 _ 2 _ _ _ HX2.out
            simp at z0 z1 z2
            go_wp2_with fail
            try rw [← hn]
            try rw [← hlb]
            clear z0 z1 z2
            refine ((HB2.out.swap).hashR (gP g1) WU0.out WU1.out HF0.out).mono ?_
            rintro e w3 ⟨rfl, hp, hk⟩
            have HB3 : Hid (J (At wr.heap.size) w g1 g2 L1 L1 w3) := Lib.hid hp.swap
            have HX3 := Lib.hid ((hk _ (.inr rfl)).trans HX2.out)
            clear hp hk HB2 HX2
            have z0 := cell_of_row w3 _ 0 _ _ _ HX3.out
            have z1 := cell_of_row w3 _ 1 _ _ _ HX3.out
            have z2 := cell_of_row w3 _ 2 _ _ _ HX3.out
            simp at z0 z1 z2
            go_wp2_with fail
            try rw [← hn]
            try rw [← hlb]
            clear z0 z1 z2
            refine ((HB3.out).deriveP (gR g2) WU0.out HN.out HF1.out).mono ?_
            rintro e w4 ⟨rfl, hp, hk⟩
            have HB4 : Hid (J (At wr.heap.size) w g1 g2 L2 L1 w4) := Lib.hid hp
            have HX4 := Lib.hid ((hk _ (.inr rfl)).trans HX3.out)
            clear hp hk HB3 HX3
            have z0 := cell_of_row w4 _ 0 _ _ _ HX4.out
            have z1 := cell_of_row w4 _ 1 _ _ _ HX4.out
            have z2 := cell_of_row w4 _ 2 _ _ _ HX4.out
            simp at z0 z1 z2
            go_wp2_with fail
            try rw [← hn]
            try rw [← hlb]
            clear z0 z1 z2
            refine ((HB4.out.swap).deriveR (gP g1) WU0.out HN.out HF1.out).mono ?_
            rintro e w5 ⟨rfl, hp, hk⟩
            have HB5 : Hid (J (At wr.heap.size) w g1 g2 L2 L2 w5) := Lib.hid hp.swap
            have HX5 := Lib.hid ((hk _ (.inr rfl)).trans HX4.out)
            clear hp hk HB4 HX4
            have z0 := cell_of_row w5 _ 0 _ _ _ HX5.out
            have z1 := cell_of_row w5 _ 1 _ _ _ HX5.out
            have z2 := cell_of_row w5 _ 2 _ _ _ HX5.out
            simp at z0 z1 z2
            go_wp2_with fail
            try rw [← hn]
            try rw [← hlb]
            clear z0 z1 z2
            refine ((HB5.out).mixP (gR g2) WU0.out WU1.out HF2.out).mono ?_
            rintro e w6 ⟨rfl, hp, hk⟩
            have HB6 : Hid (J (At wr.heap.size) w g1 g2 L3 L2 w6) := Lib.hid hp
            have HX6 := Lib.hid ((hk _ (.inr rfl)).trans HX5.out)
            clear hp hk HB5 HX5
            have z0 := cell_of_row w6 _ 0 _ _ _ HX6.out
            have z1 := cell_of_row w6 _ 1 _ _ _ HX6.out
            have z2 := cell_of_row w6 _ 2 _ _ _ HX6.out
            simp at z0 z1 z2
            go_wp2_with fail
            try rw [← hn]
            try rw [← hlb]
            clear z0 z1 z2
            refine ((HB6.out.swap).mixR (gP g1) WU0.out WU1.out HF2.out).mono ?_
            rintro e w7 ⟨rfl, hp, hk⟩
            have HB7 : Hid (J (At wr.heap.size) w g1 g2 L3 L3 w7) := Lib.hid hp.swap
            have HX7 := Lib.hid ((hk _ (.inr rfl)).trans HX6.out)
            clear hp hk HB6 HX6
            have z0 := cell_of_row w7 _ 0 _ _ _ HX7.out
            have z1 := cell_of_row w7 _ 1 _ _ _ HX7.out
            have z2 := cell_of_row w7 _ 2 _ _ _ HX7.out
            simp at z0 z1 z2
            go_wp2_with fail
            try rw [← hn]
            try rw [← hlb]
            clear z0 z1 z2
            refine ((HB7.out).chainP (gR g2) WU0.out HLB.out HF3.out).mono ?_
            rintro e w8 ⟨rfl, hp, hk⟩
            have HB8 : Hid (J (At wr.heap.size) w g1 g2 L4 L3 w8) := Lib.hid hp
            have HX8 := Lib.hid ((hk _ (.inr rfl)).trans HX7.out)
            clear hp hk HB7 HX7
            have z0 := cell_of_row w8 _ 0 _ _ _ HX8.out
            have z1 := cell_of_row w8 _ 1 _ _ _ HX8.out
            have z2 := cell_of_row w8 _ 2 _ _ _ HX8.out
            simp at z0 z1 z2
            go_wp2_with fail
            try rw [← hn]
            try rw [← hlb]
            clear z0 z1 z2
            refine ((HB8.out.swap).chainR (gP g1) WU0.out HLB.out HF3.out).mono ?_
            rintro e w9 ⟨rfl, hp, hk⟩
            have HB9 : Hid (J (At wr.heap.size) w g1 g2 L4 L4 w9) := Lib.hid hp.swap
            have HX9 := Lib.hid ((hk _ (.inr rfl)).trans HX8.out)
            clear hp hk HB8 HX8
            have sm0 : (a != a) = false := by simp
            have sm1 : (e1 != e1) = false := by simp
            have sm2 : (c != c) = false := by simp
            have sm3 : (e2 != e2) = false := by simp
            have sm4 : (u != u) = false := by simp
            have sm5 : (v != v) = false := by simp
            have sm6 : (e3 != e3) = false := by simp
            have sm7 : (p != p) = false := by simp
            have sm8 : (e4 != e4) = false := by simp
            have HP : Hid (J No w g1 g2 L4 L4 w9) := Lib.hid (HB9.out.less (fun k hk => .inl hk))
            clear HB9 HX9
            go_wp2_with fail
            go_roundw
            case rel => exact ⟨k + 1, L4, by have := Hk.out; omega, by go_num, HP⟩
            case measure => have := Hk.out; simp [intOf]; omega
          · have h1001 : decide (u2 ≤ 1000) = false := by simpa using h1000
            have h201 := h200
            clear h200
            obtain ⟨a, e1, L1, hf0⟩ : ∃ a e M, putF L 1000 (hashT u0 u1) = (a, e, M) := ⟨_, _, _, rfl⟩
            have HF0 := Lib.hid hf0
            obtain ⟨c, e2, L2, hf1⟩ : ∃ a e M, putF L1 1000 (keyT u0 n) = (a, e, M) := ⟨_, _, _, rfl⟩
            have HF1 := Lib.hid hf1
            obtain ⟨u, v, e3, L3, hf2⟩ : ∃ a b e M, mixF L2 1000 u0 u1 = (a, b, e, M) := ⟨_, _, _, _, rfl⟩
            have HF2 := Lib.hid hf2
            obtain ⟨p, e4, L4, hf3⟩ : ∃ a e M, chainF L3 1000 u0 lb u2 = (a, e, M) := ⟨_, _, _, rfl⟩
            have HF3 := Lib.hid hf3
            clear hf0 hf1 hf2 hf3
            have HB : Hid (J (At wr.heap.size) w g1 g2 L L (wr.alloc (.cells #[.int .i64 u0, .int .i64 u1, .int .i64 u2] 28))) := Lib.hid (Pair.box (gP g1) (gR g2) HP.out (.cells #[.int .i64 u0, .int .i64 u1, .int .i64 u2] 28))
            have hbx := heap_alloc_new wr (.cells #[.int .i64 u0, .int .i64 u1, .int .i64 u2] 28)
            have HX := Lib.hid hbx
            clear hbx HP
            go_wp2_with fail
            clear q0 q1 q2
            clear h1000 h1001 h201
            refine ((HB.out).hashP (gR g2) WU0.out WU1.out HF0.out).mono ?_
            rintro e w2 ⟨rfl, hp, hk⟩
            have HB2 : Hid (J (At wr.heap.size) w g1 g2 L1 L w2) := Lib.hid hp
            have HX2 := Lib.hid ((hk _ (.inr rfl)).trans HX.out)
            clear hp hk HB HX
            have z0 := cell_of_row w2 _ 0 _ _ _ HX2.out
            have z1 := cell_of_row w2 _ 1 _ _ _ HX2.out
            have z2 := cell_of_row w2 _ 2 _ _ _ HX2.out
            simp at z0 z1 z2
            go_wp2_with fail
            try rw [← hn]
            try rw [← hlb]
            clear z0 z1 z2
            refine ((HB2.out.swap).hashR (gP g1) WU0.out WU1.out HF0.out).mono ?_
            rintro e w3 ⟨rfl, hp, hk⟩
            have HB3 : Hid (J (At wr.heap.size) w g1 g2 L1 L1 w3) := Lib.hid hp.swap
            have HX3 := Lib.hid ((hk _ (.inr rfl)).trans HX2.out)
            clear hp hk HB2 HX2
            have z0 := cell_of_row w3 _ 0 _ _ _ HX3.out
            have z1 := cell_of_row w3 _ 1 _ _ _ HX3.out
            have z2 := cell_of_row w3 _ 2 _ _ _ HX3.out
            simp at z0 z1 z2
            go_wp2_with fail
            try rw [← hn]
            try rw [← hlb]
            clear z0 z1 z2
            refine ((HB3.out).deriveP (gR g2) WU0.out HN.out HF1.out).mono ?_
            rintro e w4 ⟨rfl, hp, hk⟩
            have HB4 : Hid (J (At wr.heap.size) w g1 g2 L2 L1 w4) := Lib.hid hp
            have HX4 := Lib.hid ((hk _ (.inr rfl)).trans HX3.out)
            clear hp hk HB3 HX3
            have z0 := cell_of_row w4 _ 0 _ _ _ HX4.out
            have z1 := cell_of_row w4 _ 1 _ _ _ HX4.out
            have z2 := cell_of_row w4 _ 2 _ _ _ HX4.out
            simp at z0 z1 z2
            go_wp2_with fail
            try rw [← hn]
            try rw [← hlb]
            clear z0 z1 z2
            refine ((HB4.out.swap).deriveR (gP g1) WU0.out HN.out HF1.out).mono ?_
            rintro e w5 ⟨rfl, hp, hk⟩
            have HB5 : Hid (J (At wr.heap.size) w g1 g2 L2 L2 w5) := Lib.hid hp.swap
            have HX5 := Lib.hid ((hk _ (.inr rfl)).trans HX4.out)
            clear hp hk HB4 HX4
            have z0 := cell_of_row w5 _ 0 _ _ _ HX5.out
            have z1 := cell_of_row w5 _ 1 _ _ _ HX5.out
            have z2 := cell_of_row w5 _ 2 _ _ _ HX5.out
            simp at z0 z1 z2
            go_wp2_with fail
            try rw [← hn]
            try rw [← hlb]
            clear z0 z1 z2
            refine ((HB5.out).mixP (gR g2) WU0.out WU1.out HF2.out).mono ?_
            rintro e w6 ⟨rfl, hp, hk⟩
            have HB6 : Hid (J (At wr.heap.size) w g1 g2 L3 L2 w6) := Lib.hid hp
            have HX6 := Lib.hid ((hk _ (.inr rfl)).trans HX5.out)
            clear hp hk HB5 HX5
            have z0 := cell_of_row w6 _ 0 _ _ _ HX6.out
            have z1 := cell_of_row w6 _ 1 _ _ _ HX6.out
            have z2 := cell_of_row w6 _ 2 _ _ _ HX6.out
            simp at z0 z1 z2
            go_wp2_with fail
            try rw [← hn]
            try rw [← hlb]
            clear z0 z1 z2
            refine ((HB6.out.swap).mixR (gP g1) WU0.out WU1.out HF2.out).mono ?_
            rintro e w7 ⟨rfl, hp, hk⟩
            have HB7 : Hid (J (At wr.heap.size) w g1 g2 L3 L3 w7) := Lib.hid hp.swap
            have HX7 := Lib.hid ((hk _ (.inr rfl)).trans HX6.out)
            clear hp hk HB6 HX6
            have z0 := cell_of_row w7 _ 0 _ _ _ HX7.out
            have z1 := cell_of_row w7 _ 1 _ _ _ HX7.out
            have z2 := cell_of_row w7 _ 2 _ _ _ HX7.out
            simp at z0 z1 z2
            go_wp2_with fail
            try rw [← hn]
            try rw [← hlb]
            clear z0 z1 z2
            refine ((HB7.out).chainP (gR g2) WU0.out HLB.out HF3.out).mono ?_
            rintro e w8 ⟨rfl, hp, hk⟩
            have HB8 : Hid (J (At wr.heap.size) w g1 g2 L4 L3 w8) := Lib.hid hp
            have HX8 := Lib.hid ((hk _ (.inr rfl)).trans HX7.out)
            clear hp hk HB7 HX7
            have z0 := cell_of_row w8 _ 0 _ _ _ HX8.out
            have z1 := cell_of_row w8 _ 1 _ _ _ HX8.out
            have z2 := cell_of_row w8 _ 2 _ _ _ HX8.out
            simp at z0 z1 z2
            go_wp2_with fail
            try rw [← hn]
            try rw [← hlb]
            clear z0 z1 z2
            refine ((HB8.out.swap).chainR (gP g1) WU0.out HLB.out HF3.out).mono ?_
            rintro e w9 ⟨rfl, hp, hk⟩
            have HB9 : Hid (J (At wr.heap.size) w g1 g2 L4 L4 w9) := Lib.hid hp.swap
            have HX9 := Lib.hid ((hk _ (.inr rfl)).trans HX8.out)
            clear hp hk HB8 HX8
            have sm0 : (a != a) = false := by simp
            have sm1 : (e1 != e1) = false := by simp
            have sm2 : (c != c) = false := by simp
            have sm3 : (e2 != e2) = false := by simp
            have sm4 : (u != u) = false := by simp
            have sm5 : (v != v) = false := by simp
            have sm6 : (e3 != e3) = false := by simp
            have sm7 : (p != p) = false := by simp
            have sm8 : (e4 != e4) = false := by simp
            have HP : Hid (J No w g1 g2 L4 L4 w9) := Lib.hid (HB9.out.less (fun k hk => .inl hk))
            clear HB9 HX9
            go_wp2_with fail
            go_roundw
            case rel => exact ⟨k + 1, L4, by have := Hk.out; omega, by go_num, HP⟩
            case measure => have := Hk.out; simp [intOf]; omega
        · have h1001 : decide (20 < u2) = false := by simpa using h200
          have h1000 : u2 ≤ 20 := by omega
          have h201 := h1000
          clear h200
          obtain ⟨a, e1, L1, hf0⟩ : ∃ a e M, putF L 1000 (hashT u0 u1) = (a, e, M) := ⟨_, _, _, rfl⟩
          have HF0 := Lib.hid hf0
          obtain ⟨c, e2, L2, hf1⟩ : ∃ a e M, putF L1 1000 (keyT u0 n) = (a, e, M) := ⟨_, _, _, rfl⟩
          have HF1 := Lib.hid hf1
          obtain ⟨u, v, e3, L3, hf2⟩ : ∃ a b e M, mixF L2 1000 u0 u1 = (a, b, e, M) := ⟨_, _, _, _, rfl⟩
          have HF2 := Lib.hid hf2
          obtain ⟨p, e4, L4, hf3⟩ : ∃ a e M, chainF L3 1000 u0 lb u2 = (a, e, M) := ⟨_, _, _, rfl⟩
          have HF3 := Lib.hid hf3
          clear hf0 hf1 hf2 hf3
          have HB : Hid (J (At wr.heap.size) w g1 g2 L L (wr.alloc (.cells #[.int .i64 u0, .int .i64 u1, .int .i64 u2] 28))) := Lib.hid (Pair.box (gP g1) (gR g2) HP.out (.cells #[.int .i64 u0, .int .i64 u1, .int .i64 u2] 28))
          have hbx := heap_alloc_new wr (.cells #[.int .i64 u0, .int .i64 u1, .int .i64 u2] 28)
          have HX := Lib.hid hbx
          clear hbx HP
          go_wp2_with fail
          clear q0 q1 q2
          clear h1000 h1001 h201
          refine ((HB.out).hashP (gR g2) WU0.out WU1.out HF0.out).mono ?_
          rintro e w2 ⟨rfl, hp, hk⟩
          have HB2 : Hid (J (At wr.heap.size) w g1 g2 L1 L w2) := Lib.hid hp
          have HX2 := Lib.hid ((hk _ (.inr rfl)).trans HX.out)
          clear hp hk HB HX
          have z0 := cell_of_row w2 _ 0 _ _ _ HX2.out
          have z1 := cell_of_row w2 _ 1 _ _ _ HX2.out
          have z2 := cell_of_row w2 _ 2 _ _ _ HX2.out
          simp at z0 z1 z2
          go_wp2_with fail
          try rw [← hn]
          try rw [← hlb]
          clear z0 z1 z2
          refine ((HB2.out.swap).hashR (gP g1) WU0.out WU1.out HF0.out).mono ?_
          rintro e w3 ⟨rfl, hp, hk⟩
          have HB3 : Hid (J (At wr.heap.size) w g1 g2 L1 L1 w3) := Lib.hid hp.swap
          have HX3 := Lib.hid ((hk _ (.inr rfl)).trans HX2.out)
          clear hp hk HB2 HX2
          have z0 := cell_of_row w3 _ 0 _ _ _ HX3.out
          have z1 := cell_of_row w3 _ 1 _ _ _ HX3.out
          have z2 := cell_of_row w3 _ 2 _ _ _ HX3.out
          simp at z0 z1 z2
          go_wp2_with fail
          try rw [← hn]
          try rw [← hlb]
          clear z0 z1 z2
          refine ((HB3.out).deriveP (gR g2) WU0.out HN.out HF1.out).mono ?_
          rintro e w4 ⟨rfl, hp, hk⟩
          have HB4 : Hid (J (At wr.heap.size) w g1 g2 L2 L1 w4) := Lib.hid hp
          have HX4 := Lib.hid ((hk _ (.inr rfl)).trans HX3.out)
          clear hp hk HB3 HX3
          have z0 := cell_of_row w4 _ 0 _ _ _ HX4.out
          have z1 := cell_of_row w4 _ 1 _ _ _ HX4.out
          have z2 := cell_of_row w4 _ 2 _ _ _ HX4.out
          simp at z0 z1 z2
          go_wp2_with fail
          try rw [← hn]
          try rw [← hlb]
          clear z0 z1 z2
          refine ((HB4.out.swap).deriveR (gP g1) WU0.out HN.out HF1.out).mono ?_
          rintro e w5 ⟨rfl, hp, hk⟩
          have HB5 : Hid (J (At wr.heap.size) w g1 g2 L2 L2 w5) := Lib.hid hp.swap
          have HX5 := Lib.hid ((hk _ (.inr rfl)).trans HX4.out)
          clear hp hk HB4 HX4
          have z0 := cell_of_row w5 _ 0 _ _ _ HX5.out
          have z1 := cell_of_row w5 _ 1 _ _ _ HX5.out
          have z2 := cell_of_row w5 _ 2 _ _ _ HX5.out
          simp at z0 z1 z2
          go_wp2_with fail
          try rw [← hn]
          try rw [← hlb]
          clear z0 z1 z2
          refine ((HB5.out).mixP (gR g2) WU0.out WU1.out HF2.out).mono ?_
          rintro e w6 ⟨rfl, hp, hk⟩
          have HB6 : Hid (J (At wr.heap.size) w g1 g2 L3 L2 w6) := Lib.hid hp
          have HX6 := Lib.hid ((hk _ (.inr rfl)).trans HX5.out)
          clear hp hk HB5 HX5
          have z0 := cell_of_row w6 _ 0 _ _ _ HX6.out
          have z1 := cell_of_row w6 _ 1 _ _ _ HX6.out
          have z2 := cell_of_row w6 _ 2 _ _ _ HX6.out
          simp at z0 z1 z2
          go_wp2_with fail
          try rw [← hn]
          try rw [← hlb]
          clear z0 z1 z2
          refine ((HB6.out.swap).mixR (gP g1) WU0.out WU1.out HF2.out).mono ?_
          rintro e w7 ⟨rfl, hp, hk⟩
          have HB7 : Hid (J (At wr.heap.size) w g1 g2 L3 L3 w7) := Lib.hid hp.swap
          have HX7 := Lib.hid ((hk _ (.inr rfl)).trans HX6.out)
          clear hp hk HB6 HX6
          have z0 := cell_of_row w7 _ 0 _ _ _ HX7.out
          have z1 := cell_of_row w7 _ 1 _ _ _ HX7.out
          have z2 := cell_of_row w7 _ 2 _ _ _ HX7.out
          simp at z0 z1 z2
          go_wp2_with fail
          try rw [← hn]
          try rw [← hlb]
          clear z0 z1 z2
          refine ((HB7.out).chainP (gR g2) WU0.out HLB.out HF3.out).mono ?_
          rintro e w8 ⟨rfl, hp, hk⟩
          have HB8 : Hid (J (At wr.heap.size) w g1 g2 L4 L3 w8) := Lib.hid hp
          have HX8 := Lib.hid ((hk _ (.inr rfl)).trans HX7.out)
          clear hp hk HB7 HX7
          have z0 := cell_of_row w8 _ 0 _ _ _ HX8.out
          have z1 := cell_of_row w8 _ 1 _ _ _ HX8.out
          have z2 := cell_of_row w8 _ 2 _ _ _ HX8.out
          simp at z0 z1 z2
          go_wp2_with fail
          try rw [← hn]
          try rw [← hlb]
          clear z0 z1 z2
          refine ((HB8.out.swap).chainR (gP g1) WU0.out HLB.out HF3.out).mono ?_
          rintro e w9 ⟨rfl, hp, hk⟩
          have HB9 : Hid (J (At wr.heap.size) w g1 g2 L4 L4 w9) := Lib.hid hp.swap
          have HX9 := Lib.hid ((hk _ (.inr rfl)).trans HX8.out)
          clear hp hk HB8 HX8
          have sm0 : (a != a) = false := by simp
          have sm1 : (e1 != e1) = false := by simp
          have sm2 : (c != c) = false := by simp
          have sm3 : (e2 != e2) = false := by simp
          have sm4 : (u != u) = false := by simp
          have sm5 : (v != v) = false := by simp
          have sm6 : (e3 != e3) = false := by simp
          have sm7 : (p != p) = false := by simp
          have sm8 : (e4 != e4) = false := by simp
          have HP : Hid (J No w g1 g2 L4 L4 w9) := Lib.hid (HB9.out.less (fun k hk => .inl hk))
          clear HB9 HX9
          go_wp2_with fail
          go_roundw
          case rel => exact ⟨k + 1, L4, by have := Hk.out; omega, by go_num, HP⟩
          case measure => have := Hk.out; simp [intOf]; omega
      · have h21 : decide ((k : Int) < 12) = false := by simp; omega
        clear hk hlt h20
        go_wp2_with fail
        refine (sameL_any _ HP.out).mono ?_
        rintro e w2 ⟨rfl, hb2⟩
        have HP2 := J.below hb2 HP
        clear hb2 HP
        go_wp2_with fail
        refine (fixed_any _).mono ?_
        rintro e w3 ⟨rfl, hb3⟩
        have HP3 := J.below hb3 HP2
        clear hb3 HP2
        go_wp2
        go_ret
        exact ⟨rfl, HP3.out.belowW⟩
    · have hlt1 : decide (k < len1) = false := by simpa using hlt
      clear hk hlt
      go_wp2_with fail
      refine (sameL_any _ HP.out).mono ?_
      rintro e w2 ⟨rfl, hb2⟩
      have HP2 := J.below hb2 HP
      clear hb2 HP
      go_wp2_with fail
      refine (fixed_any _).mono ?_
      rintro e w3 ⟨rfl, hb3⟩
      have HP3 := J.below hb3 HP2
      clear hb3 HP2
      go_wp2
      go_ret
      exact ⟨rfl, HP3.out.belowW⟩

set_option maxRecDepth 100000 in
theorem lifted (os : Os) (started : os.Started) (H : Type) (enc : TypeId × Value → H) :
    ReturnsInHanded {} Try.checked os 3 .any (Rows.kdfTellsSpec.pre6 enc Try.prog Try.f3 Rows.kdfTellsRow.domain false) (Rows.kdfTellsSpec.post enc Try.prog Try.f3 false true false false) := by
  refine returnsInHanded_of_change (C := Try.checked) own started (by kernel_rfl) Try.func3
    (ChangeSpec.witness6 (enc := enc) (C := Try.checked) false ⟨#[], #[.int .i64 0, .slice none 0 0, .slice none 0 0], []⟩ 8 (by kernel_rfl) (by kernel_rfl) (by kernel_rfl) (by kernel_rfl)) ?_
  intro W base args ds gs before hval0 hW hcnd _
  have hval : ∀ (j : Nat) t v, Try.f3.params[j]? = some t → args[j]? = some v → Value.okWide Try.prog W .any base t v := hval0
  have hW' := hW
  obtain ⟨p, q, hA0, hV, rfl, hfz, hnd⟩ := hW
  have hA : DataW.TrodAll enc Try.prog W 0 (fun _ => true) true Try.f3.params.toList args.toList ds p := hA0
  rw [Try.params3] at hA hval
  obtain ⟨v0, vs0, d0, ds0, p0, q0, hargs, rfl, rfl, h0, r0⟩ := trodAll_cons hA
  obtain ⟨v1, vs1, d1, ds1, p1, q1, rfl, rfl, rfl, h1, r1⟩ := trodAll_cons r0
  obtain ⟨v2, vs2, d2, ds2, p2, q2, rfl, rfl, rfl, h2, r2⟩ := trodAll_cons r1
  obtain ⟨rfl, rfl, rfl⟩ := trodAll_nil r2
  obtain rfl : args = #[v0, v1, v2] := by cases args; simp_all
  obtain ⟨rfl, rfl⟩ := trodVars_none hV
  obtain ⟨a0, rfl, rfl, rfl, w0⟩ := open_int Try.underlying3 (hval 0 3 v0 rfl rfl) h0
  obtain ⟨a1, len1, cap1, rfl⟩ := okWide_slice Try.underlying22 (hval 1 22 v1 rfl rfl)
  have k1 := h1
  have lt1 : ∀ x ∈ p1, x.block < W.heap.size := by obtain ⟨m, hm⟩ := k1; exact DataW.trod_lt m _ _ _ hm
  obtain ⟨T1, w1⟩ : ∃ T, Terms W a1 len1 cap1 T := by
    obtain ⟨fuel, hf⟩ := h1
    exact open_terms (by simpa [Value.cells] using hf)
  obtain ⟨a2, len2, cap2, rfl⟩ := okWide_slice Try.underlying23 (hval 2 23 v2 rfl rfl)
  have k2 := h2
  have lt2 : ∀ x ∈ p2, x.block < W.heap.size := by obtain ⟨m, hm⟩ := k2; exact DataW.trod_lt m _ _ _ hm
  obtain ⟨Z2, w2⟩ : ∃ Z, Arrs .i64 3 W a2 len2 cap2 Z := by
    obtain ⟨fuel, hf⟩ := h2
    exact open_arrs Try.underlying23 Try.underlying28 Try.underlying3 (by kernel_rfl) (by kernel_rfl) (by omega) (by simpa [Value.cells] using hf)
  clear hA0 hval0
  refine (walk a0 a1 len1 cap1 T1 a2 len2 cap2 Z2 W w0 w1 w2).mono fun e W' ⟨he, bel⟩ => ?_
  subst he
  exact ⟨_, rfl, _, _, _, [], _, [], hW', trodAll_mk1 (shut_bool Try.underlying4 _), (trodAll_cons_mk (shut_int Try.underlying3 w0) (trodAll_cons_mk (Below.trod laidOut (by kernel_rfl) (of_decide_eq_true (by kernel_rfl)) k1 bel lt1) (trodAll_cons_mk (Below.trod laidOut (by kernel_rfl) (of_decide_eq_true (by kernel_rfl)) k2 bel lt2) trodAll_mk0))), rfl, bel.frame _, fun h => by cases h⟩

theorem over : Rows.kdfTellsRow.holds Try.pinned (OpenSpec.ofChange Rows.kdfTellsSpec) :=
  OpenClaim.holds_of_wide 3 Try.f3 rfl rfl rfl rfl rfl rfl rfl ⟨rfl, rfl, rfl, rfl, rfl⟩ rfl rfl rfl rfl rfl (by kernel_rfl) Try.func3 (by kernel_rfl)
    (of_decide_eq_true (by kernel_rfl)) (by unfold Func.isWrapper; first | (rw [if_pos (by decide +kernel)]; kernel_rfl) | (rw [if_neg (by decide +kernel)]; exact ⟨rfl, rfl⟩))
    (fun os started H enc _ => lifted os started H enc)

theorem proved : Rows.KdfTellsSaid := over
#print axioms proved
end Go.Proofs.Ytglgobimdghehaa.kdfTells
