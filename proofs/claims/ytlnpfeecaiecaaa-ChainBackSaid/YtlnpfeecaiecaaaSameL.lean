/- The law's Same of both stores: one, where both have the same terms. -/
import Derived.Test.YtlnpfeecaiecaaaStores
namespace Go.Proofs.Ytlnpfeecaiecaaa
open Go.RowKit
set_option linter.unusedVariables false
set_option maxRecDepth 20000

theorem getIn (L : List Tm) (k : Nat) (h : k < L.length) : getT L ((k : Int) + 1) = (L.getD k zeroT, true) := by unfold getT; rw [if_pos (by omega), show ((k : Int) + 1 - 1).toNat = k from by omega]
theorem wrap_small (n : Int) (h1 : 0 ≤ n) (h2 : n ≤ 4611686018427387904) : IntKind.i64.wrap n = n := by
  unfold IntKind.wrap
  have e1 : IntKind.i64.bits = 64 := rfl
  have e2 : IntKind.i64.signed = true := rfl
  simp only [e1, e2, Bool.true_and]
  have : n % 2 ^ 64 = n := by omega
  rw [this, if_neg]
  simp
  omega
theorem neqR_same (t : Tm) (w : World) : (binOp .neq 74 t.v t.v).run Try.prog w = .ok (.bool false) w := by
  have h := eql_term t t w
  rw [(eqB_iff t t).2 rfl] at h
  have h2 : (Op.equalIn 10000 74 t.v t.v).run Try.prog w = .ok true w := by
    unfold Tm.v at h ⊢
    rw [run_eql_struct] at h
    cases he : (Op.equalIn 10000 74 (.agg #[.int .i64 t.K, .string t.S, .int .u64 t.N, .int .i64 t.A, .int .i64 t.B, .int .i64 t.C]) (.agg #[.int .i64 t.K, .string t.S, .int .u64 t.N, .int .i64 t.A, .int .i64 t.B, .int .i64 t.C])).run Try.prog w with
    | ok b w' => rw [he] at h; simp [Result.andThen] at h; obtain ⟨rfl, rfl⟩ := h; rfl
    | _ => rw [he] at h; simp [Result.andThen] at h
  unfold Tm.v at h2 ⊢
  rw [run_neq_struct, h2]; rfl

set_option maxHeartbeats 4000000 in
set_option maxRecDepth 100000 in
theorem sameL_any {base g1 g2 : Nat} {m1 m2 : Int} {L : List Tm} {K : Nat → Prop} {w0 : World} (w : World) (h : Pair base (PSq base g1 m1) (RSq base g2 m2) L L K w0 w) :
    Calls Try.prog 18 #[.pointer (some ⟨g1, 0, none⟩), .pointer (some ⟨g2, 0, none⟩)] w fun e w' => e = .returned (.int .i64 1) ∧ Below w.heap.size w w' := by
  have HP := Lib.hid h
  have gP := PSq.good base g1 m1
  have gR := RSq.good base g2 m2
  obtain ⟨F1, F2, hp1, ⟨sv, hr, hg, hs3, hs4, hs5, hs6, hs7⟩, _⟩ := h
  have HR := Lib.hid hr
  obtain ⟨aa, cc, rfl, ch, _⟩ := hr.head
  have hL20 := hr.2.2.2.2
  have hgb : g2 < w.heap.size := block_lt_of_cell ch
  have HL : Hid (∀ n, Calls Try.prog 20 #[.pointer (some ⟨g1, 0, none⟩)] (w.drewN n) fun e w' => e = .returned (.int .i64 L.length) ∧ ∃ m, w' = w.drewN m) := Lib.hid (fun n => quiet_of ((HP.out.below gP gR (drewN_below _ _)).lenP))
  clear hp1 hr hg hs3 hs4 hs5 hs6 hs7
  have hself : ((L.length : Int) == (L.length : Int)) = true := beq_self_eq_true _
  go_enter Try.func18, Try.ntmps18
  go_wp2
  go_quiet (first | (go_at_call 20; exact HL.out _))
  have HB0 := Lib.hid (drewN_below w nq)
  clear HL
  generalize w.drewN nq = w1 at HB0 ⊢
  go_wp2_with fail
  go_loopw [5] (fun i wr => ∃ k : Nat, k ≤ L.length ∧ i = .int .i64 ((k : Nat) + 1 : Int) ∧ Hid (Below w.heap.size w wr)) (fun i _ => L.length + 1 - (intOf i).toNat)
  case atStart => exact ⟨0, Nat.zero_le _, rfl, HB0⟩
  case round =>
    obtain ⟨k, hk, rfl, HB⟩ := hrel
    clear HB0
    have hck : wr.cell? ⟨g2, 0, none⟩ = some (.slice aa L.length cc) := by rw [HB.out.cell hgb]; exact ch
    by_cases hlt : k < L.length
    · have hlt1 : (k : Int) + 1 ≤ (L.length : Int) := by omega
      have hG := getIn L k hlt
      obtain ⟨b, cap', hsv', hrow⟩ := HR.out.row k hlt
      injection hsv' with p1 p2 p3
      subst p1 p3
      clear p2
      obtain ⟨⟨K, S, N, A, B, C⟩, ht⟩ : ∃ t, t = L.getD k zeroT := ⟨_, rfl⟩
      rw [← ht] at hG hrow
      clear ht
      have HROW := Lib.hid hrow
      have hbb : b < w.heap.size := block_lt_of_cell (hrow 0 _ rfl)
      have Hk := Lib.hid hlt
      have HPr := Lib.hid (HP.out.below gP gR HB.out)
      clear hrow hlt hk
      go_wp2_with fail
      refine (HPr.out.getP gR _ hG).mono ?_
      rintro e w3 ⟨rfl, hP3, hb3⟩
      rw [show ((⟨K, S, N, A, B, C⟩, true) : Tm × Bool).1.v = .agg #[.int .i64 K, .string S, .int .u64 N, .int .i64 A, .int .i64 B, .int .i64 C] from rfl]
      have HB3 := Lib.hid (HB.out.trans (hb3.mono HB.out.size))
      clear hP3 hb3 HPr hG hck
      go_wp2_with fail
      have HB4 : Hid (Below w.heap.size w (w3.alloc (.cells #[.int .i64 K, .string S, .int .u64 N, .int .i64 A, .int .i64 B, .int .i64 C] 59))) := Lib.hid (HB3.out.alloc HB3.out.size _)
      have z : ∀ j, (w3.alloc (.cells #[.int .i64 K, .string S, .int .u64 N, .int .i64 A, .int .i64 B, .int .i64 C] 59)).cell? ⟨w3.heap.size, j, none⟩ = #[Value.int .i64 K, .string S, .int .u64 N, .int .i64 A, .int .i64 B, .int .i64 C][j]? := fun j => cell_of_row _ _ j _ _ _ (heap_alloc_new w3 _)
      have hz3 : w3.heap.size < (w3.alloc (.cells #[.int .i64 K, .string S, .int .u64 N, .int .i64 A, .int .i64 B, .int .i64 C] 59)).heap.size := by simp
      generalize w3.alloc (.cells #[.int .i64 K, .string S, .int .u64 N, .int .i64 A, .int .i64 B, .int .i64 C] 59) = w4 at HB4 z hz3 ⊢
      have z0 := z 0
      have z1 := z 1
      have z2 := z 2
      have z3 := z 3
      have z4 := z 4
      have z5 := z 5
      simp at z0 z1 z2 z3 z4 z5
      have ch4 : w4.cell? ⟨g2, 0, none⟩ = some (.slice (some ⟨b, 0, none⟩) L.length cc) := by rw [HB4.out.cell hgb]; exact ch
      have r0 := HROW.out 0 _ rfl
      have r1 := HROW.out 1 _ rfl
      have r2 := HROW.out 2 _ rfl
      have r3 := HROW.out 3 _ rfl
      have r4 := HROW.out 4 _ rfl
      have r5 := HROW.out 5 _ rfl
      rw [← HB4.out.cell (by exact hbb)] at r0 r1 r2 r3 r4 r5
      simp at r0 r1 r2 r3 r4 r5
      have hg4 : g2 < w4.heap.size := Nat.lt_of_lt_of_le hgb HB4.out.size
      have hb4 : b < w4.heap.size := Nat.lt_of_lt_of_le hbb HB4.out.size
      have e4 : (k : Int) + 1 - 1 = (k : Int) := by omega
      have hk3 : (k : Int) < (L.length : Int) := by omega
      have hk0 : (0 : Int) ≤ (k : Int) := by omega
      have e5 : IntKind.i64.wrap ((k : Int) + 1 - 1) = (k : Int) := by rw [e4]; exact wrap_small _ (by omega) (by omega)
      have e6 : IntKind.i64.wrap (k : Int) = (k : Int) := wrap_small _ (by omega) (by omega)
      have hE := neqR_same ⟨K, S, N, A, B, C⟩
      have hgd := guard37
      unfold Tm.v at hE
      simp only [] at hE
      have HREF : Hid (∀ W : World, Calls Try.prog 28 #[.agg #[.int .i64 K, .string S, .int .u64 N, .int .i64 A, .int .i64 B, .int .i64 C]] W fun e w' => e = .returned (.agg #[.int .i64 K, .string S, .int .u64 N, .int .i64 A, .int .i64 B, .int .i64 C]) ∧ Below W.heap.size W w') := Lib.hid (fun W => ref_any K S N A B C W)
      clear z HB3
      go_region_held3 (fun w' => w'.cell? ⟨w3.heap.size, 0, none⟩ = some (.int .i64 K) ∧ w'.cell? ⟨w3.heap.size, 1, none⟩ = some (.string S) ∧ w'.cell? ⟨w3.heap.size, 2, none⟩ = some (.int .u64 N) ∧ w'.cell? ⟨w3.heap.size, 3, none⟩ = some (.int .i64 A) ∧ w'.cell? ⟨w3.heap.size, 4, none⟩ = some (.int .i64 B) ∧ w'.cell? ⟨w3.heap.size, 5, none⟩ = some (.int .i64 C) ∧ w'.cell? ⟨g2, 0, none⟩ = some (.slice (some ⟨b, 0, none⟩) L.length cc) ∧ w'.cell? ⟨b, k * 6, none⟩ = some (.int .i64 K) ∧ w'.cell? ⟨b, k * 6 + 1, none⟩ = some (.string S) ∧ w'.cell? ⟨b, k * 6 + 2, none⟩ = some (.int .u64 N) ∧ w'.cell? ⟨b, k * 6 + 3, none⟩ = some (.int .i64 A) ∧ w'.cell? ⟨b, k * 6 + 4, none⟩ = some (.int .i64 B) ∧ w'.cell? ⟨b, k * 6 + 5, none⟩ = some (.int .i64 C)) (go_keep) (first | (go_at_call 28; refine (HREF.out _).mono ?_; rintro e w5 ⟨rfl, hb5⟩; have y0 := (hb5.cell (p := ⟨w3.heap.size, 0, none⟩) hz3).trans z0; have y1 := (hb5.cell (p := ⟨w3.heap.size, 1, none⟩) hz3).trans z1; have y2 := (hb5.cell (p := ⟨w3.heap.size, 2, none⟩) hz3).trans z2; have y3 := (hb5.cell (p := ⟨w3.heap.size, 3, none⟩) hz3).trans z3; have y4 := (hb5.cell (p := ⟨w3.heap.size, 4, none⟩) hz3).trans z4; have y5 := (hb5.cell (p := ⟨w3.heap.size, 5, none⟩) hz3).trans z5; have yh := (hb5.cell (p := ⟨g2, 0, none⟩) hg4).trans ch4; have x0 := (hb5.cell (p := ⟨b, k * 6, none⟩) hb4).trans r0; have x1 := (hb5.cell (p := ⟨b, k * 6 + 1, none⟩) hb4).trans r1; have x2 := (hb5.cell (p := ⟨b, k * 6 + 2, none⟩) hb4).trans r2; have x3 := (hb5.cell (p := ⟨b, k * 6 + 3, none⟩) hb4).trans r3; have x4 := (hb5.cell (p := ⟨b, k * 6 + 4, none⟩) hb4).trans r4; have x5 := (hb5.cell (p := ⟨b, k * 6 + 5, none⟩) hb4).trans r5))
      all_goals
        have HB5 : Hid (Below w.heap.size w w5) := Lib.hid (HB4.out.drew.trans (hb5.mono HB4.out.size))
        clear hb5 z0 z1 z2 z3 z4 z5 r0 r1 r2 r3 r4 r5 ch4 HB4
        go_wp2_with fail
        go_roundw
        case rel => exact ⟨k + 1, by have := Hk.out; omega, by go_num, HB5⟩
        case measure => have := Hk.out; simp [intOf]; omega
    · obtain rfl : k = L.length := by omega
      have hlt1 : decide ((L.length : Int) + 1 ≤ (L.length : Int)) = false := decide_eq_false (by omega)
      clear hlt hk
      go_wp2
      go_ret
      exact ⟨rfl, HB.out⟩
end Go.Proofs.Ytlnpfeecaiecaaa
