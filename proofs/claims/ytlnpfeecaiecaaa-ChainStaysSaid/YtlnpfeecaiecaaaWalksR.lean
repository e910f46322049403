/- Whether a term may be, as the program tells it, for every term and every store. -/
import Derived.Test.YtlnpfeecaiecaaaWalksQ
import Derived.Test.YtlnpfeecaiecaaaWalksP
namespace Go.Proofs.Ytlnpfeecaiecaaa
open Go.RowKit
set_option linter.unusedVariables false
set_option maxRecDepth 20000

theorem held32 : Try.prog.stoodInHeld 59 = false := by kernel_rfl
theorem guard32 : Try.prog.eqGuardType Try.prog.depth 59 = false := by kernel_rfl
theorem fields32 : Try.prog.underlying 59 = some (.struct (Try.prog.fieldsOf 59)) := by kernel_rfl
theorem equal_term (u t : Tm) (w : World) : (Op.equalIn 10000 59 u.v t.v).run Try.prog w = .ok (eqB u t) w := by
  unfold Tm.v
  rw [run_equalIn_agg _ _ _ _ _ fields32 held32]
  have hf : (Try.prog.fieldsOf 59).toList = (match Try.prog.underlying 59 with | some (.struct fs) => fs.toList | _ => []) := by kernel_rfl
  rw [hf, Try.underlying59]
  have i3 := fun (w : World) (a b : Int) => run_equalIn_int (P := Try.prog) w 9998 3 .i64 .i64 a b Try.underlying3
  have i30 := fun (w : World) (a b : Int) => run_equalIn_int (P := Try.prog) w 9998 57 .u64 .u64 a b Try.underlying57
  have i9 := fun (w : World) (a b : ByteArray) => run_equalIn_string (P := Try.prog) w 9998 9 a b Try.underlying9
  simp only [Op.eqFields, eqB]
  cases h1 : (u.K == t.K)
  · go_simp
  cases h2 : (u.S.toList == t.S.toList)
  · go_simp
  cases h3 : (u.N == t.N)
  · go_simp
  cases h4 : (u.A == t.A)
  · go_simp
  cases h5 : (u.B == t.B)
  · go_simp
  cases h6 : (u.C == t.C)
  · go_simp
  go_simp
theorem eql_termP (u t : Tm) (w : World) : (binOp .eql 59 u.v t.v).run Try.prog w = .ok (.bool (eqB u t)) w := by
  have h := equal_term u t w
  unfold Tm.v at *
  rw [run_eql_struct, h]; rfl
theorem neq_termP (u t : Tm) (w : World) : (binOp .neq 59 u.v t.v).run Try.prog w = .ok (.bool (!eqB u t)) w := by
  have h := equal_term u t w
  unfold Tm.v at *
  rw [run_neq_struct, h]; rfl

/-- Whether a term may be, as the program has it. -/
def MayP (n : Nat) (t : Tm) : Prop :=
  1 ≤ t.K ∧ t.K ≤ 11 ∧ bareT t = t ∧ t.S.size ≤ 1000 ∧ ¬ (t.K = 4 ∧ t.B < t.A) ∧ ∀ j, j < many t.K → 1 ≤ partAt t.A t.B t.C j ∧ partAt t.A t.B t.C j ≤ (n : Int)

set_option maxHeartbeats 4000000 in
set_option maxRecDepth 100000 in
theorem mayP_any (g n : Nat) (K : Int) (S : ByteArray) (N A B C : Int) (w : World) (c1 : w.cell? ⟨g, 1, none⟩ = some (.int .i64 n)) (hn : n ≤ 1048576) (hS : S.size ≤ maxLen) :
    Calls Try.prog 33 #[.pointer (some ⟨g, 0, none⟩), .agg #[.int .i64 K, .string S, .int .u64 N, .int .i64 A, .int .i64 B, .int .i64 C]] w (MayPost (MayP n ⟨K, S, N, A, B, C⟩) w) := by
  unfold maxLen at hS
  have hgb := Lib.hid (block_lt_of_cell c1)
  have HC := Lib.hid c1
  clear c1
  by_cases k1 : K < 1
  · have r1 : decide (K < 1) = true := by simpa using k1
    have H := Lib.hid k1
    clear k1
    go_enter Try.func33, Try.ntmps33
    go_wp2
    go_quiet (fail)
    go_wp2
    go_ret
    exact ⟨false, rfl, ⟨fun h => by simp at h, fun h => by have := h.1; have := H.out; simp only at *; omega⟩, ((Below.refl _ _).alloc (Nat.le_refl _) _).trans ⟨rfl, rfl, rfl, Nat.le_refl _, fun _ _ => rfl⟩⟩
  have r1 : decide (K < 1) = false := by simpa using k1
  by_cases k2 : 12 ≤ K
  · have r2 : decide ((12 : Int) ≤ K) = true := by simpa using k2
    have H := Lib.hid k2
    clear k1 k2
    go_enter Try.func33, Try.ntmps33
    go_wp2
    go_quiet (fail)
    go_wp2
    go_ret
    exact ⟨false, rfl, ⟨fun h => by simp at h, fun h => by have := h.2.1; have := H.out; simp only at *; omega⟩, ((Below.refl _ _).alloc (Nat.le_refl _) _).trans ⟨rfl, rfl, rfl, Nat.le_refl _, fun _ _ => rfl⟩⟩
  have r2 : decide ((12 : Int) ≤ K) = false := by simpa using k2
  have HK : Hid (1 ≤ K ∧ K ≤ 11) := Lib.hid ⟨by omega, by omega⟩
  clear k1 k2
  have hN := fun (W : World) => neq_termP ⟨K, S, N, A, B, C⟩ (bareT ⟨K, S, N, A, B, C⟩) W
  obtain ⟨⟨K', S', N', A', B', C'⟩, ht⟩ : ∃ u, u = bareT ⟨K, S, N, A, B, C⟩ := ⟨_, rfl⟩
  rw [← ht] at hN
  have HT := Lib.hid ht
  have hgd := guard32
  have HB : Hid (∀ W : World, Calls Try.prog 44 #[.agg #[.int .i64 K, .string S, .int .u64 N, .int .i64 A, .int .i64 B, .int .i64 C]] W fun e w' =>
      e = .returned (.agg #[.int .i64 K', .string S', .int .u64 N', .int .i64 A', .int .i64 B', .int .i64 C']) ∧ Below W.heap.size W w') := Lib.hid (fun W => by
    refine (bare_any K S N A B C W HK.out).mono ?_
    rintro e w' ⟨rfl, hb⟩
    rw [← HT.out]
    exact ⟨rfl, hb⟩)
  clear ht
  unfold Tm.v at hN
  obtain ⟨be, hbe⟩ : ∃ b, b = eqB ⟨K, S, N, A, B, C⟩ ⟨K', S', N', A', B', C'⟩ := ⟨_, rfl⟩
  simp only [] at hN
  rw [← hbe] at hN
  have HQ := Lib.hid hbe
  clear hbe
  go_enter Try.func33, Try.ntmps33
  go_wp2
  obtain ⟨W, hW⟩ : ∃ W, W = w.alloc (.cells #[.int .i64 K, .string S, .int .u64 N, .int .i64 A, .int .i64 B, .int .i64 C] 59) := ⟨_, rfl⟩
  have z : ∀ j, W.cell? ⟨w.heap.size, j, none⟩ = #[Value.int .i64 K, .string S, .int .u64 N, .int .i64 A, .int .i64 B, .int .i64 C][j]? := fun j => by rw [hW]; exact cell_of_row _ _ j _ _ _ (heap_alloc_new w _)
  have hsz : w.heap.size < W.heap.size := by rw [hW]; simp
  have HBW : Hid (Below w.heap.size w W) := Lib.hid (by rw [hW]; exact (Below.refl _ _).alloc (Nat.le_refl _) _)
  have HZ := Lib.hid z
  rw [← hW]
  clear hW
  have z0 := z 0
  have z1 := z 1
  have z2 := z 2
  have z3 := z 3
  have z4 := z 4
  have z5 := z 5
  simp at z0 z1 z2 z3 z4 z5
  clear z
  go_region_held3 (fun w' => w'.cell? ⟨w.heap.size, 0, none⟩ = some (.int .i64 K) ∧ w'.cell? ⟨w.heap.size, 1, none⟩ = some (.string S) ∧ w'.cell? ⟨w.heap.size, 2, none⟩ = some (.int .u64 N) ∧ w'.cell? ⟨w.heap.size, 3, none⟩ = some (.int .i64 A) ∧ w'.cell? ⟨w.heap.size, 4, none⟩ = some (.int .i64 B) ∧ w'.cell? ⟨w.heap.size, 5, none⟩ = some (.int .i64 C)) (go_keep) (first | (go_at_call 44; refine (HB.out _).mono ?_; rintro e w1 ⟨rfl, hb1⟩; have y0 := (hb1.cell (p := ⟨w.heap.size, 0, none⟩) hsz).trans z0; have y1 := (hb1.cell (p := ⟨w.heap.size, 1, none⟩) hsz).trans z1; have y2 := (hb1.cell (p := ⟨w.heap.size, 2, none⟩) hsz).trans z2; have y3 := (hb1.cell (p := ⟨w.heap.size, 3, none⟩) hsz).trans z3; have y4 := (hb1.cell (p := ⟨w.heap.size, 4, none⟩) hsz).trans z4; have y5 := (hb1.cell (p := ⟨w.heap.size, 5, none⟩) hsz).trans z5))
  have HB1 : Hid (Below w.heap.size w w1) := Lib.hid (HBW.out.drew.trans (hb1.mono (Nat.le_of_lt hsz)))
  have HSZ : Hid (w.heap.size < w1.heap.size) := Lib.hid (Nat.lt_of_lt_of_le hsz hb1.size)
  clear hb1 z0 z1 z2 z3 z4 z5 HBW HZ
  cases be
  · go_wp2
    go_ret
    refine ⟨false, rfl, ⟨fun h => by simp at h, fun h => ?_⟩, HB1.out⟩
    have h1 := HT.out.trans h.2.2.1
    have h2 := (eqB_iff _ _).2 h1.symm
    exact absurd HQ.out (by rw [h2]; decide)
  have HE : Hid (bareT ⟨K, S, N, A, B, C⟩ = ⟨K, S, N, A, B, C⟩) := Lib.hid (HT.out.symm.trans ((eqB_iff _ _).1 HQ.out.symm).symm)
  clear hN hgd HQ HT HB
  by_cases hl : 1000 < S.size
  · have l1 : decide ((1000 : Int) < S.size) = true := by simp; omega
    have H := Lib.hid hl
    clear hl
    go_wp2
    go_ret
    exact ⟨false, rfl, ⟨fun h => by simp at h, fun h => by have := h.2.2.2.1; have := H.out; simp only at *; omega⟩, HB1.out⟩
  have l1 : decide ((1000 : Int) < S.size) = false := by simp; omega
  have HL : Hid (S.size ≤ 1000) := Lib.hid (by omega)
  clear hl
  by_cases h4 : K = 4 ∧ B < A
  · have k4 : (K == 4) = true := by simp [h4.1]
    have ab : decide (B < A) = true := by simpa using h4.2
    have H := Lib.hid h4
    clear h4
    go_wp2
    go_ret
    exact ⟨false, rfl, ⟨fun h => by simp at h, fun h => absurd H.out h.2.2.2.2.1⟩, HB1.out⟩
  have H4 := Lib.hid h4
  have k4s : ((K == 4) = true ∧ decide (B < A) = false) ∨ (K == 4) = false := by
    by_cases k4 : K = 4
    · left; exact ⟨by simp [k4], by simp; omega⟩
    · right; simp [k4]
  have hm0 : many K = 0 ∨ 0 < many K := by omega
  clear h4
  rcases k4s with ⟨k4, ab⟩ | k4
  all_goals
    rcases hm0 with hm0 | hm0
    · have HM := Lib.hid hm0
      clear hm0
      go_wp2_with fail
      refine (parts_prog _ _ _ _ _ _ _).mono ?_
      rintro e w2 ⟨b, rfl, hb2, hbs, hcells⟩
      have hp : partsV b K = .slice none 0 0 := by unfold partsV; rw [if_pos HM.out]
      rw [hp]
      have HB2 : Hid (Below w.heap.size w w2) := Lib.hid (HB1.out.trans (hb2.mono (Nat.le_of_lt HSZ.out)))
      clear hb2 hcells hp hbs
      go_wp2
      go_loop [40] (fun i => i = .int .i64 0) (fun _ => 0)
      case atStart => rfl
      case round =>
        obtain rfl := hrel
        go_wp2
        go_ret
        exact ⟨true, rfl, ⟨fun _ => ⟨HK.out.1, HK.out.2, HE.out, HL.out, H4.out, fun j hj => by have := HM.out; simp only at hj; omega⟩, fun _ => rfl⟩, HB2.out⟩
    · have HM := Lib.hid hm0
      clear hm0
      go_wp2_with fail
      refine (parts_prog _ _ _ _ _ _ _).mono ?_
      rintro e w2 ⟨b, rfl, hb2, hbs, hcells⟩
      have hp : partsV b K = .slice (some ⟨b, 0, none⟩) (many K) (many K) := by unfold partsV; rw [if_neg (by have := HM.out; omega)]
      rw [hp]
      have HB2 : Hid (Below w.heap.size w w2) := Lib.hid (HB1.out.trans (hb2.mono (Nat.le_of_lt HSZ.out)))
      have HCC := Lib.hid hcells
      have HM3 := Lib.hid (many_le K)
      have cg : w2.cell? ⟨g, 1, none⟩ = some (.int .i64 n) := by rw [HB2.out.cell hgb.out]; exact HC.out
      clear hb2 hcells hp hbs
      go_wp2
      go_loop [40] (fun i => ∃ k : Nat, k ≤ many K ∧ i = .int .i64 k ∧ Hid (∀ j, j < k → 1 ≤ partAt A B C j ∧ partAt A B C j ≤ (n : Int))) (fun i => many K - (intOf i).toNat)
      case atStart => exact ⟨0, Nat.zero_le _, rfl, Lib.hid (fun j h => absurd h (Nat.not_lt_zero _))⟩
      case round =>
        obtain ⟨k, hk, rfl, HJ⟩ := hrel
        by_cases hlt : k < many K
        · have ck := HCC.out k hlt
          have Hlt := Lib.hid hlt
          have hlt1 : (k : Int) < many K := by omega
          have hk3 : (k : Int) ≤ 3 := by have := HM3.out; omega
          obtain ⟨p, hp⟩ : ∃ p, p = partAt A B C k := ⟨_, rfl⟩
          rw [← hp] at ck
          have HP := Lib.hid hp
          clear hp hk
          go_wp2_with fail
          refine (has_any g n p _ cg).mono ?_
          rintro e w3 ⟨rfl, rfl⟩
          by_cases hq : 1 ≤ p ∧ p ≤ (n : Int)
          · have hd : decide (1 ≤ p ∧ p ≤ (n : Int)) = true := decide_eq_true hq
            rw [hd]
            have HQ := Lib.hid hq
            clear hq hd
            go_wp2
            go_round
            case rel => exact ⟨k + 1, by have := Hlt.out; omega, by go_num, Lib.hid (fun j hj => by rcases Nat.lt_succ_iff_lt_or_eq.1 hj with h | rfl; exact HJ.out j h; rw [← HP.out]; exact HQ.out)⟩
            case measure => have := Hlt.out; simp [intOf]; omega
          · have hd : decide (1 ≤ p ∧ p ≤ (n : Int)) = false := decide_eq_false hq
            rw [hd]
            have HQ := Lib.hid hq
            clear hq hd
            go_wp2
            go_ret
            exact ⟨false, rfl, ⟨fun h => by simp at h, fun h => absurd (by rw [HP.out]; exact h.2.2.2.2.2 k Hlt.out) HQ.out⟩, HB2.out⟩
        · obtain rfl : k = many K := by omega
          clear hlt hk
          go_wp2
          go_ret
          exact ⟨true, rfl, ⟨fun _ => ⟨HK.out.1, HK.out.2, HE.out, HL.out, H4.out, HJ.out⟩, fun _ => rfl⟩, HB2.out⟩
end Go.Proofs.Ytlnpfeecaiecaaa
