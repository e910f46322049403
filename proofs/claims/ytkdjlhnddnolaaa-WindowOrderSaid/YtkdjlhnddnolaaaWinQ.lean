/- Windows: the landed program's calls: digit, with. -/
import Derived.Test.YtkdjlhnddnolaaaWinT
import Derived.Laws.ShiftsVar
import Derived.Laws.Bits64b
namespace Go.Proofs.Ytkdjlhnddnolaaa
open Go.RowKit
set_option linter.unusedVariables false
set_option linter.unusedSimpArgs false
set_option maxRecDepth 20000
theorem shl_wrap (B k : Nat) : IntKind.u64.wrap ((B : Int) * 2 ^ min k 64) = (((B <<< k) % 2 ^ 64 : Nat) : Int) := by
  have hw : ∀ x : Int, IntKind.u64.wrap x = x % 18446744073709551616 := fun x => by simp [IntKind.wrap, IntKind.signed, IntKind.bits]
  rw [hw, Nat.shiftLeft_eq]
  by_cases h : k ≤ 64
  · rw [Nat.min_eq_left h]
    simp
  · rw [Nat.min_eq_right (by omega)]
    have e1 : (B : Int) * 2 ^ 64 % 18446744073709551616 = 0 := by omega
    have e2 : B * 2 ^ k % 2 ^ 64 = 0 := by
      have e3 : k = 64 + (k - 64) := by omega
      rw [e3, Nat.pow_add, ← Nat.mul_assoc, Nat.mul_comm B, Nat.mul_assoc]
      exact Nat.mul_mod_right _ _
    rw [e1, e2]
    rfl
theorem shl_or (B k : Nat) : (B <<< k ||| 1) % 2 ^ 64 = (B <<< k) % 2 ^ 64 ||| 1 := by
  rw [Nat.or_mod_two_pow]
/-- The digit of a number below. -/
def digW (N n : Nat) : Nat := (1 <<< (N - 1 - n)) % 2 ^ 64
theorem digW_lt (N n : Nat) : digW N n < 2 ^ 64 := Nat.mod_lt _ (by decide)
theorem digW_near {N n : Nat} (h : N - 1 - n ≤ 63) : digW N n = 2 ^ (N - 1 - n) := by
  unfold digW
  rw [Nat.shiftLeft_eq, Nat.one_mul]
  exact Nat.mod_eq_of_lt (Nat.pow_lt_pow_right (by decide) (by omega))
theorem digW_far {N n : Nat} (h : 63 < N - 1 - n) : digW N n = 0 := by
  unfold digW
  rw [Nat.shiftLeft_eq, Nat.one_mul]
  have e3 : N - 1 - n = 64 + (N - 1 - n - 64) := by omega
  rw [e3, Nat.pow_add]
  exact Nat.mul_mod_right _ _
/-- A window once a number came, whether it could or not. -/
def withW (w : Wn) (n : Nat) : Wn := if n < w.next then ⟨w.next, w.bits ||| digW w.next n⟩ else ⟨n + 1, (w.bits <<< (n + 1 - w.next) ||| 1) % 2 ^ 64⟩
theorem with_put {w : Wn} {n : Nat} (hc : canW w n = true) : withW w n = putW w n := by
  unfold withW putW
  by_cases h : n < w.next
  · rw [if_pos h, if_pos h]
    unfold canW at hc
    simp only [Bool.and_eq_true, Bool.or_eq_true, decide_eq_true_eq] at hc
    rw [digW_near (by omega)]
  · rw [if_neg h, if_neg h]
theorem or_self_iff (b d : Nat) : (b ||| 2 ^ d = b) ↔ b.testBit d = true := by
  constructor
  · intro h
    rw [← h, Nat.testBit_or, Nat.testBit_two_pow]
    simp
  · intro h
    apply Nat.eq_of_testBit_eq
    intro i
    rw [Nat.testBit_or, Nat.testBit_two_pow]
    by_cases e : d = i
    · subst e; simp [h]
    · simp [e]
theorem and_dig (b N n : Nat) (hb : b < 2 ^ 64) : (b &&& digW N n = 0) ↔ ¬ (N - 1 - n ≤ 63 ∧ b.testBit (N - 1 - n) = true) := by
  by_cases h : N - 1 - n ≤ 63
  · rw [digW_near h]
    constructor
    · intro h0 hq
      have := congrArg (fun x => x.testBit (N - 1 - n)) h0
      simp only [Nat.testBit_and, Nat.testBit_two_pow, Nat.zero_testBit] at this
      simp [hq.2] at this
    · intro hq
      apply Nat.eq_of_testBit_eq
      intro i
      rw [Nat.testBit_and, Nat.testBit_two_pow, Nat.zero_testBit]
      by_cases e : N - 1 - n = i
      · rw [e] at hq h
        have : b.testBit i = false := by
          cases hx : b.testBit i with
          | false => rfl
          | true => exact absurd ⟨h, hx⟩ hq
        simp [this]
      · simp [e]
  · rw [digW_far (by omega)]
    simp [h]
/-- Whether it is another window: what Can asks. -/
theorem can_with {w : Wn} {n : Nat} (hn : n ≠ topN) : (w.next = (withW w n).next ∧ w.bits = (withW w n).bits) ↔ canW w n = false := by
  unfold canW withW
  rw [decide_eq_false hn]
  simp only [Bool.not_false, Bool.true_and]
  by_cases h : n < w.next
  · rw [if_pos h]
    have h0 : decide (w.next ≤ n) = false := decide_eq_false (by omega)
    rw [h0]
    simp only [Bool.false_or, true_and]
    by_cases h63 : w.next - 1 - n ≤ 63
    · rw [digW_near h63, decide_eq_true h63]
      simp only [Bool.true_and]
      have := or_self_iff w.bits (w.next - 1 - n)
      constructor
      · intro hq
        rw [this.1 hq.symm]
        rfl
      · intro hq
        have : w.bits.testBit (w.next - 1 - n) = true := by simpa using hq
        exact ((or_self_iff _ _).2 this).symm
    · rw [digW_far (by omega), decide_eq_false h63]
      simp
  · rw [if_neg h]
    have h0 : decide (w.next ≤ n) = true := decide_eq_true (by omega)
    rw [h0]
    simp only [Bool.true_or]
    constructor
    · intro hq
      have := hq.1
      omega
    · intro hq
      cases hq
theorem with_lt {w : Wn} {n : Nat} (hw : w.Ok) (hn : n < topN) : (withW w n).next ≤ 18446744073709551615 ∧ (withW w n).bits ≤ 18446744073709551615 := by
  unfold withW
  by_cases h : n < w.next
  · rw [if_pos h]
    refine ⟨hw.next, ?_⟩
    have := Nat.or_lt_two_pow hw.bits (digW_lt w.next n)
    show w.bits ||| digW w.next n ≤ 18446744073709551615
    omega
  · rw [if_neg h]
    refine ⟨?_, ?_⟩
    · unfold topN at hn; show n + 1 ≤ 18446744073709551615; omega
    · have := Nat.mod_lt (w.bits <<< (n + 1 - w.next) ||| 1) (show 0 < 2 ^ 64 by decide)
      show (w.bits <<< (n + 1 - w.next) ||| 1) % 2 ^ 64 ≤ 18446744073709551615
      omega
theorem fill2 {u : World} {x y : Value} {T : TypeId} (R : Nat) (a b : Value) (h : u.heap[R]? = some (.cells #[x, y] T (0, 0))) : ((u.setCell ⟨R, 0, none⟩ a).setCell ⟨R, 1, none⟩ b).heap[R]? = some (.cells #[a, b] T (0, 0)) := by
  have h1 := heap_setCell_same u R 0 _ _ a h
  have h2 := heap_setCell_same _ R 1 _ _ b h1
  simpa using h2
theorem fill2_below {u : World} {B : Nat} (R : Nat) (a b : Value) (hB : B ≤ u.heap.size) (hR : B ≤ R) : Below B u ((u.setCell ⟨R, 0, none⟩ a).setCell ⟨R, 1, none⟩ b) := by
  have h1 := (Chg.setCell u R 0 a).below (B := B) (fun k e => by rw [e]; exact hR) hB
  exact h1.trans ((Chg.setCell _ R 1 b).below (fun k e => by rw [e]; exact hR) (Nat.le_trans hB h1.size))
theorem undrew {w u : World} (h : Below w.drew.heap.size w.drew u) : Below w.heap.size w u := Below.trans (b := w.drew) ⟨rfl, rfl, rfl, Nat.le_refl _, fun _ _ => rfl⟩ h
set_option maxHeartbeats 400000 in
theorem digit_p (N B n P : Nat) (hN : N ≤ 18446744073709551615) (hB : B ≤ 18446744073709551615) (hlt : n < N) (hP : digW N n = P) (w : World) :
    Calls Try.prog 19 #[.agg #[.int .u64 (N : Int), .int .u64 (B : Int)], .int .u64 (n : Int)] w fun e w' => e = .returned (.int .u64 (P : Int)) ∧ Below w.heap.size w w' := by
  have b1 : (N : Int) ≤ 18446744073709551615 := by omega
  have b2 : (B : Int) ≤ 18446744073709551615 := by omega
  obtain ⟨M, hM⟩ : ∃ M, N - 1 = M := ⟨_, rfl⟩
  obtain ⟨d, hd⟩ : ∃ d, M - n = d := ⟨_, rfl⟩
  have b5 : (M : Int) ≤ 18446744073709551615 := by omega
  have b6 : (d : Int) ≤ 18446744073709551615 := by omega
  have e1 : (N : Int) - 1 = (M : Int) := by omega
  have e2 : (M : Int) - (n : Int) = (d : Int) := by omega
  have e5 : IntKind.u64.wrap ((2 : Int) ^ min d 64) = (P : Int) := by
    have := shl_wrap 1 d
    rw [← hP]
    unfold digW
    rw [hM, hd]
    simpa using this
  clear hP hM hd hlt hN hB
  go_enter Try.func19, Try.ntmps19
  go_wp2
  go_ret
  exact ⟨rfl, below_alloc _ _⟩
set_option maxHeartbeats 1000000 in
theorem with_b (N B n P R : Nat) (hN : N ≤ 18446744073709551615) (hB : B ≤ 18446744073709551615) (hlt : n < N) (hP : digW N n = P) (hR : B ||| P = R) (w : World) :
    Calls Try.prog 17 #[.agg #[.int .u64 (N : Int), .int .u64 (B : Int)], .int .u64 (n : Int)] w fun e w' => e = .returned (.agg #[.int .u64 (N : Int), .int .u64 (R : Int)]) ∧ Below w.heap.size w w' := by
  have b1 : (N : Int) ≤ 18446744073709551615 := by omega
  have b2 : (B : Int) ≤ 18446744073709551615 := by omega
  have b4 : (n : Int) < (N : Int) := by omega
  have e6 : bits .or .u64 (B : Int) (P : Int) = (R : Int) := by
    rw [← hR]
    exact bits_or_u64_nat B P (by omega) (by rw [← hP]; exact digW_lt _ _)
  have HC : Hid (∀ w, Calls Try.prog 19 #[.agg #[.int .u64 (N : Int), .int .u64 (B : Int)], .int .u64 (n : Int)] w fun e w' => e = .returned (.int .u64 (P : Int)) ∧ Below w.heap.size w w') := Lib.hid (fun w => digit_p N B n P hN hB hlt hP w)
  obtain ⟨o0, ho0⟩ : ∃ o0, o0 = w.alloc (.cells #[.int .u64 (N : Int), .int .u64 (B : Int)] 24 : Obj) := ⟨_, rfl⟩
  obtain ⟨o1, ho1⟩ : ∃ o1, o1 = o0.alloc (.cells #[.int .u64 0, .int .u64 0] 24 : Obj) := ⟨_, rfl⟩
  obtain ⟨Bw, hBw⟩ : ∃ Bw, Bw = w.heap.size := ⟨_, rfl⟩
  obtain ⟨Rw, hRw⟩ : ∃ Rw, Rw = o0.heap.size := ⟨_, rfl⟩
  have hb0 : o0.heap[Bw]? = some (.cells #[.int .u64 (N : Int), .int .u64 (B : Int)] 24 (0, 0)) := by rw [ho0, hBw]; exact heap_alloc_new w _
  have hbb : o1.heap[Bw]? = some (.cells #[.int .u64 (N : Int), .int .u64 (B : Int)] 24 (0, 0)) := by
    rw [ho1]
    exact ((below_alloc o0 _).block _ (blk_lt hb0)).trans hb0
  have hbr : o1.heap[Rw]? = some (.cells #[.int .u64 0, .int .u64 0] 24 (0, 0)) := by rw [ho1, hRw]; exact heap_alloc_new o0 _
  have HBB := Lib.hid hbb
  have HBR := Lib.hid hbr
  have HL : Hid (Below w.heap.size w o1) := Lib.hid (by rw [ho1, ho0]; exact (below_alloc w _).trans ((below_alloc _ _).mono (below_alloc w _).size))
  have HRL : Hid (w.heap.size ≤ Rw) := Lib.hid (by rw [hRw, ho0]; exact (below_alloc w _).size)
  clear hbb hbr hb0 hP hR hlt hN hB
  go_enter Try.func17, Try.ntmps17
  go_upto_region 1 with fail
  have hRw1 : Bw + 1 = Rw := by rw [hRw, ho0, hBw]; simp
  rw [← ho0, ← hBw, ← ho1, hRw1]
  clear ho0 ho1 hBw hRw hRw1
  obtain ⟨r0, r1, q0, q1⟩ := cells2 HBB.out
  obtain ⟨s0, s1, t0, t1⟩ := cells2 HBR.out
  go_wp2_with fail
  go_region_with (go_at_call 19; refine (HC.out _).mono ?_; rintro e w2 ⟨rfl, hb⟩; replace hb := undrew hb; have HB2 := Lib.hid hb; have hk2 := (hb.block _ (blk_lt HBB.out)).trans HBB.out; have hk3 := (hb.block _ (blk_lt HBR.out)).trans HBR.out; obtain ⟨r02, r12, q02, q12⟩ := cells2 hk2; obtain ⟨s02, s12, t02, t12⟩ := cells2 hk3; have HK3 := Lib.hid hk3; clear hb hk2 hk3)
  all_goals
    have hk := fill2 (u := w2) (x := .int .u64 0) (y := .int .u64 0) Rw (.int .u64 (N : Int)) (.int .u64 (R : Int)) HK3.out
    have hf : Below w.heap.size w ((w2.setCell ⟨Rw, 0, none⟩ (.int .u64 (N : Int))).setCell ⟨Rw, 1, none⟩ (.int .u64 (R : Int))) := (HL.out.trans (HB2.out.mono HL.out.size)).trans (fill2_below _ _ _ (Nat.le_trans HL.out.size HB2.out.size) HRL.out)
    go_wp2_with fail
    refine bodyPost_ret (v := .agg #[.int .u64 (N : Int), .int .u64 (R : Int)]) ?_ rfl ⟨rfl, hf⟩
    exact results_cell_row Try.results17 _ _ Rw 24 _ (0, 0) _ rfl hk Try.underlying24 rfl (by kernel_rfl)
set_option maxHeartbeats 1000000 in
theorem with_a (N B n R : Nat) (hN : N ≤ 18446744073709551615) (hB : B ≤ 18446744073709551615) (hn : n < 18446744073709551615) (hlt : ¬ n < N) (hR : (B <<< (n + 1 - N) ||| 1) % 2 ^ 64 = R) (w : World) :
    Calls Try.prog 17 #[.agg #[.int .u64 (N : Int), .int .u64 (B : Int)], .int .u64 (n : Int)] w fun e w' => e = .returned (.agg #[.int .u64 ((n + 1 : Nat) : Int), .int .u64 (R : Int)]) ∧ Below w.heap.size w w' := by
  have b1 : (N : Int) ≤ 18446744073709551615 := by omega
  have b2 : (B : Int) ≤ 18446744073709551615 := by omega
  have b4 : decide ((n : Int) < (N : Int)) = false := decide_eq_false (by omega)
  have b4n : decide (n < N) = false := decide_eq_false hlt
  obtain ⟨m, hm⟩ : ∃ m, n + 1 = m := ⟨_, rfl⟩
  obtain ⟨k, hk⟩ : ∃ k, m - N = k := ⟨_, rfl⟩
  have b5 : (m : Int) ≤ 18446744073709551615 := by omega
  have b6 : (k : Int) ≤ 18446744073709551615 := by omega
  have e1 : (n : Int) + 1 = (m : Int) := by omega
  have e2 : (m : Int) - (N : Int) = (k : Int) := by omega
  rw [hm] at hR ⊢
  rw [hk, shl_or] at hR
  obtain ⟨Q, hQ⟩ : ∃ Q, (B <<< k) % 2 ^ 64 = Q := ⟨_, rfl⟩
  have e5 : IntKind.u64.wrap ((B : Int) * 2 ^ min k 64) = (Q : Int) := by rw [← hQ]; exact shl_wrap B k
  have e6 : bits .or .u64 (Q : Int) 1 = (R : Int) := by
    rw [← hR, hQ]
    exact bits_or_u64_nat Q 1 (by rw [← hQ]; exact Nat.mod_lt _ (by decide)) (by decide)
  obtain ⟨o0, ho0⟩ : ∃ o0, o0 = w.alloc (.cells #[.int .u64 (N : Int), .int .u64 (B : Int)] 24 : Obj) := ⟨_, rfl⟩
  obtain ⟨o1, ho1⟩ : ∃ o1, o1 = o0.alloc (.cells #[.int .u64 0, .int .u64 0] 24 : Obj) := ⟨_, rfl⟩
  obtain ⟨Bw, hBw⟩ : ∃ Bw, Bw = w.heap.size := ⟨_, rfl⟩
  obtain ⟨Rw, hRw⟩ : ∃ Rw, Rw = o0.heap.size := ⟨_, rfl⟩
  have hb0 : o0.heap[Bw]? = some (.cells #[.int .u64 (N : Int), .int .u64 (B : Int)] 24 (0, 0)) := by rw [ho0, hBw]; exact heap_alloc_new w _
  have hbb : o1.heap[Bw]? = some (.cells #[.int .u64 (N : Int), .int .u64 (B : Int)] 24 (0, 0)) := by
    rw [ho1]
    exact ((below_alloc o0 _).block _ (blk_lt hb0)).trans hb0
  have hbr : o1.heap[Rw]? = some (.cells #[.int .u64 0, .int .u64 0] 24 (0, 0)) := by rw [ho1, hRw]; exact heap_alloc_new o0 _
  have HBB := Lib.hid hbb
  have HBR := Lib.hid hbr
  have HL : Hid (Below w.heap.size w o1) := Lib.hid (by rw [ho1, ho0]; exact (below_alloc w _).trans ((below_alloc _ _).mono (below_alloc w _).size))
  have HRL : Hid (w.heap.size ≤ Rw) := Lib.hid (by rw [hRw, ho0]; exact (below_alloc w _).size)
  clear hbb hbr hb0 hR hlt hN hB hQ hk hm hn
  go_enter Try.func17, Try.ntmps17
  go_upto_region 1 with fail
  have hRw1 : Bw + 1 = Rw := by rw [hRw, ho0, hBw]; simp
  rw [← ho0, ← hBw, ← ho1, hRw1]
  clear ho0 ho1 hBw hRw hRw1
  obtain ⟨r0, r1, q0, q1⟩ := cells2 HBB.out
  obtain ⟨s0, s1, t0, t1⟩ := cells2 HBR.out
  have hk := fill2 (u := o1) (x := .int .u64 0) (y := .int .u64 0) Rw (.int .u64 (m : Int)) (.int .u64 (R : Int)) HBR.out
  have hf : Below w.heap.size w ((o1.setCell ⟨Rw, 0, none⟩ (.int .u64 (m : Int))).setCell ⟨Rw, 1, none⟩ (.int .u64 (R : Int))) := HL.out.trans (fill2_below _ _ _ HL.out.size HRL.out)
  have HK := Lib.hid hk
  have HF := Lib.hid hf
  clear hk hf
  go_wp2_with fail
  refine bodyPost_ret (v := .agg #[.int .u64 (m : Int), .int .u64 (R : Int)]) ?_ rfl ⟨rfl, HF.out⟩
  exact results_cell_row Try.results17 _ _ Rw 24 _ (0, 0) _ rfl HK.out Try.underlying24 rfl (by kernel_rfl)
/-- Whatever number but the greatest. -/
theorem with_p (N B n a b : Nat) (hN : N ≤ 18446744073709551615) (hB : B ≤ 18446744073709551615) (hn : n < 18446744073709551615) (hr : withW ⟨N, B⟩ n = ⟨a, b⟩) (w : World) :
    Calls Try.prog 17 #[.agg #[.int .u64 (N : Int), .int .u64 (B : Int)], .int .u64 (n : Int)] w fun e w' => e = .returned (.agg #[.int .u64 (a : Int), .int .u64 (b : Int)]) ∧ Below w.heap.size w w' := by
  unfold withW at hr
  by_cases h : n < N
  · rw [if_pos h] at hr
    injection hr with h1 h2
    subst h1
    exact with_b N B n _ b hN hB h rfl h2 w
  · rw [if_neg h] at hr
    injection hr with h1 h2
    subst h1
    exact with_a N B n b hN hB hn h h2 w
/-! ### Windows compared -/
theorem heldW : Try.prog.stoodInHeld 24 = false := by kernel_rfl
theorem guardW : Try.prog.eqGuardType Try.prog.depth 24 = false := by kernel_rfl
theorem fieldsW : Try.prog.underlying 24 = some (.struct (Try.prog.fieldsOf 24)) := by kernel_rfl
set_option maxHeartbeats 2000000 in
theorem eqInW (a b c d : Int) (w : World) : (Op.equalIn 10000 24 (.agg #[.int .u64 a, .int .u64 b]) (.agg #[.int .u64 c, .int .u64 d])).run Try.prog w = .ok (a == c && b == d) w := by
  rw [run_equalIn_agg _ _ _ _ _ fieldsW heldW]
  have hf : (Try.prog.fieldsOf 24).toList = (match Try.prog.underlying 24 with | some (.struct fs) => fs.toList | _ => []) := by kernel_rfl
  rw [hf, Try.underlying24]
  have i30 := fun (w : World) (a b : Int) => run_equalIn_int (P := Try.prog) w 9998 22 .u64 .u64 a b Try.underlying22
  simp only [Op.eqFields]
  cases h0 : (a == c)
  · go_simp
  cases h1 : (b == d)
  · go_simp
  go_simp
theorem eqlW (a b c d : Int) (w : World) : (binOp .eql 24 (.agg #[.int .u64 a, .int .u64 b]) (.agg #[.int .u64 c, .int .u64 d])).run Try.prog w = .ok (.bool (a == c && b == d)) w := by
  have h := eqInW a b c d w
  rw [run_eql_struct, h]; rfl
theorem neqW (a b c d : Int) (w : World) : (binOp .neq 24 (.agg #[.int .u64 a, .int .u64 b]) (.agg #[.int .u64 c, .int .u64 d])).run Try.prog w = .ok (.bool (!(a == c && b == d))) w := by
  have h := eqInW a b c d w
  rw [run_neq_struct, h]; rfl
end Go.Proofs.Ytkdjlhnddnolaaa
