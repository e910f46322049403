/- AlarmDoes: whatever is put, moved, dropped and due, at any times: each answer, and what is first, is as the document says. No condition. -/
import Derived.Test.YtcnfchjiiglijaaRows
import Derived.Test.YtcnfchjiiglijaaAlarmBx
import Derived.WalkKit
import Derived.ProofKit
import Derived.OpenShut
import Derived.ShutString
import Derived.ChangeOld
import Derived.Below
import Derived.Test.YtcnfchjiiglijaaArrs
namespace Go.Proofs.Ytcnfchjiiglijaa.alarmDoes
open Go.ChangeShapes Go.WideShapes Go.ChangeAt Go.RowKit
open Go.ChangeMaps (open_string shut_string)
open Go.Proofs.Ytcnfchjiiglijaa
set_option linter.unusedVariables false
set_option linter.unusedSimpArgs false
set_option maxRecDepth 20000

theorem own : ownKnob Try.prog.godebug = none := by kernel_rfl
theorem laidOut : laidOutB Try.prog = true := by kernel_rfl
set_option maxHeartbeats 4000000 in
set_option maxRecDepth 100000 in
theorem walk (most : Int) (a1 : Option Addr) (len1 cap1 : Nat) (Z1 : Nat → Nat → Int) (w : World) (w0 : (Lit.int .i64 most).wf = true) (w1 : Arrs .u64 3 w a1 len1 cap1 Z1) :
    Calls Try.prog 3 #[.int .i64 most, .slice a1 len1 cap1] w fun e w' => e = .returned (.bool true) ∧ Below w.heap.size w w' := by
  have HMO := Lib.hid (Go.bounds_i64 w0)
  obtain ⟨hcm, hlc, b, off, hz⟩ := w1
  have HZ := Lib.hid hz
  unfold maxLen at hcm
  clear hz w0
  go_enter Try.func3, Try.ntmps3
  go_wp2_with fail
  refine (new_s most most w w (Below.refl _ _) rfl).mono ?_
  rintro e w1 ⟨p, F1, rfl, ha, hfn, hb⟩
  have HP0 : Hid (Bo w F1 (w1.alloc (.cells #[.slice none 0 0, .int .i64 most] 28)) p w1.heap.size [] [] most) := Lib.hid ⟨ha.below (below_alloc _ _), ral_new w1 most, hb.size⟩
  obtain ⟨q, hq⟩ : ∃ q, q = w1.heap.size := ⟨_, rfl⟩
  clear ha hfn hb
  go_wp2_with fail
  rw [← hq] at HP0 ⊢
  clear hq
  go_loopw [7] (fun i wr => ∃ k : Nat, ∃ L : List On, ∃ F, (k ≤ 40 ∧ L.length ≤ k) ∧ i = .int .i64 (k : Nat) ∧ Hid (Bo w F wr p q L L most)) (fun i _ => 40 - (intOf i).toNat)
  case atStart => exact ⟨0, [], F1, ⟨Nat.zero_le _, Nat.le_refl _⟩, rfl, HP0⟩
  case round =>
    clear HP0
    obtain ⟨k, L, F, hk, rfl, HP⟩ := hrel
    by_cases hlt : k < len1
    · have hlt1 : (k : Int) < (len1 : Int) := by omega
      by_cases h20 : k < 40
      · have h21 : (k : Int) < 40 := by omega
        obtain ⟨rfl, hcl⟩ := HZ.out k hlt
        obtain ⟨q0, wf0⟩ := hcl 0 (by omega)
        obtain ⟨q1, wf1⟩ := hcl 1 (by omega)
        obtain ⟨q2, wf2⟩ := hcl 2 (by omega)
        have hbw : b < w.heap.size := block_lt_of_cell q0
        obtain ⟨u0, hu0⟩ : ∃ u, u = Z1 k 0 := ⟨_, rfl⟩
        rw [← hu0] at q0 wf0
        rw [← HP.out.al.low.cell (by exact hbw)] at q0
        have WU0 : Hid (U64 u0) := Lib.hid (Go.bounds_u64 wf0)
        obtain ⟨u1, hu1⟩ : ∃ u, u = Z1 k 1 := ⟨_, rfl⟩
        rw [← hu1] at q1 wf1
        rw [← HP.out.al.low.cell (by exact hbw)] at q1
        have WU1 : Hid (U64 u1) := Lib.hid (Go.bounds_u64 wf1)
        obtain ⟨u2, hu2⟩ : ∃ u, u = Z1 k 2 := ⟨_, rfl⟩
        rw [← hu2] at q2 wf2
        rw [← HP.out.al.low.cell (by exact hbw)] at q2
        have WU2 : Hid (U64 u2) := Lib.hid (Go.bounds_u64 wf2)
        have q0 : wr.cell? ⟨b, off + k * 3, none⟩ = some (.int .u64 u0) := q0
        have HK := Lib.hid hk
        have HK20 := Lib.hid h20
        have HX := Lib.hid (HP.out.boxed u0 u1 u2)
        clear hu0 wf0 hu1 wf1 hu2 wf2 hcl hk h20 hbw HP
        have hr4 : u0.tmod 4 = 0 ∨ u0.tmod 4 = 1 ∨ u0.tmod 4 = 2 ∨ u0.tmod 4 = 3 := by have := WU0.out.1; rw [Int.tmod_eq_emod_of_nonneg this]; omega
        rcases hr4 with hr | hr | hr | hr
        · have t0 : (u0.tmod 4 == 0) = true := by rw [hr]; rfl
          clear hr
          obtain ⟨L1, hL1⟩ : ∃ M, (putD most u1 u2 L).1 = M := ⟨_, rfl⟩
          obtain ⟨E, hE⟩ : ∃ E : Int, ((putD most u1 u2 L).2 : Int) = E := ⟨_, rfl⟩
          have HL1 := Lib.hid hL1
          have HE := Lib.hid hE
          have HLL : Hid (L1.length ≤ k + 1) := Lib.hid (by rw [← hL1]; have := putD_len most u1 u2 L; have := HK.out; omega)
          clear hL1 hE
          have s0 : (E != E) = false := by simp
          go_wp2_with fail
          obtain ⟨x, hx⟩ : ∃ x, x = wr.heap.size := ⟨_, rfl⟩
          obtain ⟨W, hW⟩ : ∃ W, W = wr.alloc (.cells #[.int .u64 u0, .int .u64 u1, .int .u64 u2] 30) := ⟨_, rfl⟩
          rw [← hW, ← hx] at HX
          rw [← hW, ← hx]
          clear hW hx
          have HPd := Lib.hid HX.out.drewn
          have hS := HPd.out.cells
          have hS' := hS
          clear HX
          go_region_held3 (fun w' => w'.cell? ⟨x, 1, none⟩ = some (.int .u64 u1) ∧ w'.cell? ⟨x, 2, none⟩ = some (.int .u64 u2)) (first | assumption | go_keep) (first | (go_at_call 10; refine (put_x HPd.out u1 u2 L1 E (by have := HK20.out; have := HK.out; omega) WU1.out WU2.out HL1.out HE.out).mono ?_; rintro e w4 ⟨F1, rfl, h4⟩; have HP4 := Lib.hid h4; have hS4 := h4.cells; clear h4) | (go_at_call 11; refine (rput_x HP4.out u1 u2 L1 E (by have := HK20.out; have := HK.out; omega) HMO.out HL1.out HE.out).mono ?_; rintro e w5 ⟨rfl, h5⟩; have HP5 := Lib.hid h5; have hS5 := h5.cells; clear h5))
          have HP := Lib.hid HP5.out.bo
          clear HPd hS hS' HP5
          try clear hS4 HP4
          try clear hS5
          obtain ⟨z, y, hzy⟩ : ∃ z y, firstD L1 = (z, y) := ⟨_, _, rfl⟩
          have HZY := Lib.hid hzy
          clear hzy
          go_wp2_with fail
          refine (first_b HP.out z y (by have := HLL.out; have := HK20.out; have := HK.out; omega) HZY.out).mono ?_
          rintro e wm ⟨rfl, hp⟩
          replace HP := Lib.hid hp
          clear hp
          go_wp2_with fail
          refine (rfirst_b HP.out z y HZY.out).mono ?_
          rintro e wn ⟨rfl, hp⟩
          replace HP := Lib.hid hp
          clear hp
          have s1 : (z != z) = false := by simp
          have s2 : (y != y) = false := by simp
          have s3 : ((L1.length : Int) != (L1.length : Int)) = false := by simp
          have HPd := Lib.hid HP.out.drewn
          obtain ⟨a, c, hS, -⟩ := HPd.out.row
          have hS' := hS
          have HC : Hid (∀ W, Hid (Bo w F1 W p q L1 L1 most) → W.cell? ⟨q, 0, none⟩ = some (.slice a L1.length c) → Calls Try.prog 19 #[.pointer (some ⟨p, 0, none⟩)] W fun e w' => e = .returned (.int .i64 (L1.length : Int)) ∧ Hid (Bo w F1 w' p q L1 L1 most) ∧ w'.cell? ⟨q, 0, none⟩ = some (.slice a L1.length c)) := Lib.hid (fun W h hc => (len_s h.out.al _ (by have := HLL.out; have := HK20.out; have := HK.out; omega) rfl).mono (fun e w' ⟨h1, hb⟩ => ⟨h1, Lib.hid (h.out.below hb), (hb.cell (by exact h.out.ra.lt)).trans hc⟩))
          clear HP
          go_wp2_with fail
          go_region_held3 (fun w' => w'.cell? ⟨q, 0, none⟩ = some (.slice a L1.length c)) (first | assumption | go_keep) ((go_at_call 19; refine (HC.out _ HPd (by assumption)).mono ?_; rintro e w8 ⟨rfl, HP8, hS8⟩))
          clear HPd hS hS' HC
          try clear hS8
          go_wp2_with fail
          go_roundw
          case rel => exact ⟨k + 1, L1, F1, ⟨by have := HK20.out; omega, HLL.out⟩, by go_num, HP8⟩
          case measure => have := HK20.out; simp [intOf]; omega
        · have t0 : (u0.tmod 4 == 0) = false := by rw [hr]; rfl
          have t1 : (u0.tmod 4 == 1) = true := by rw [hr]; rfl
          clear hr
          obtain ⟨L1, hL1⟩ : ∃ M, (putD most u1 u2 L).1 = M := ⟨_, rfl⟩
          obtain ⟨E, hE⟩ : ∃ E : Int, ((putD most u1 u2 L).2 : Int) = E := ⟨_, rfl⟩
          have HL1 := Lib.hid hL1
          have HE := Lib.hid hE
          have HLL : Hid (L1.length ≤ k + 1) := Lib.hid (by rw [← hL1]; have := putD_len most u1 u2 L; have := HK.out; omega)
          clear hL1 hE
          have s0 : (E != E) = false := by simp
          go_wp2_with fail
          obtain ⟨x, hx⟩ : ∃ x, x = wr.heap.size := ⟨_, rfl⟩
          obtain ⟨W, hW⟩ : ∃ W, W = wr.alloc (.cells #[.int .u64 u0, .int .u64 u1, .int .u64 u2] 30) := ⟨_, rfl⟩
          rw [← hW, ← hx] at HX
          rw [← hW, ← hx]
          clear hW hx
          have HPd := Lib.hid HX.out.drewn
          have hS := HPd.out.cells
          have hS' := hS
          clear HX
          go_region_held3 (fun w' => w'.cell? ⟨x, 1, none⟩ = some (.int .u64 u1) ∧ w'.cell? ⟨x, 2, none⟩ = some (.int .u64 u2)) (first | assumption | go_keep) (first | (go_at_call 10; refine (put_x HPd.out u1 u2 L1 E (by have := HK20.out; have := HK.out; omega) WU1.out WU2.out HL1.out HE.out).mono ?_; rintro e w4 ⟨F1, rfl, h4⟩; have HP4 := Lib.hid h4; have hS4 := h4.cells; clear h4) | (go_at_call 11; refine (rput_x HP4.out u1 u2 L1 E (by have := HK20.out; have := HK.out; omega) HMO.out HL1.out HE.out).mono ?_; rintro e w5 ⟨rfl, h5⟩; have HP5 := Lib.hid h5; have hS5 := h5.cells; clear h5))
          have HP := Lib.hid HP5.out.bo
          clear HPd hS hS' HP5
          try clear hS4 HP4
          try clear hS5
          obtain ⟨z, y, hzy⟩ : ∃ z y, firstD L1 = (z, y) := ⟨_, _, rfl⟩
          have HZY := Lib.hid hzy
          clear hzy
          go_wp2_with fail
          refine (first_b HP.out z y (by have := HLL.out; have := HK20.out; have := HK.out; omega) HZY.out).mono ?_
          rintro e wm ⟨rfl, hp⟩
          replace HP := Lib.hid hp
          clear hp
          go_wp2_with fail
          refine (rfirst_b HP.out z y HZY.out).mono ?_
          rintro e wn ⟨rfl, hp⟩
          replace HP := Lib.hid hp
          clear hp
          have s1 : (z != z) = false := by simp
          have s2 : (y != y) = false := by simp
          have s3 : ((L1.length : Int) != (L1.length : Int)) = false := by simp
          have HPd := Lib.hid HP.out.drewn
          obtain ⟨a, c, hS, -⟩ := HPd.out.row
          have hS' := hS
          have HC : Hid (∀ W, Hid (Bo w F1 W p q L1 L1 most) → W.cell? ⟨q, 0, none⟩ = some (.slice a L1.length c) → Calls Try.prog 19 #[.pointer (some ⟨p, 0, none⟩)] W fun e w' => e = .returned (.int .i64 (L1.length : Int)) ∧ Hid (Bo w F1 w' p q L1 L1 most) ∧ w'.cell? ⟨q, 0, none⟩ = some (.slice a L1.length c)) := Lib.hid (fun W h hc => (len_s h.out.al _ (by have := HLL.out; have := HK20.out; have := HK.out; omega) rfl).mono (fun e w' ⟨h1, hb⟩ => ⟨h1, Lib.hid (h.out.below hb), (hb.cell (by exact h.out.ra.lt)).trans hc⟩))
          clear HP
          go_wp2_with fail
          go_region_held3 (fun w' => w'.cell? ⟨q, 0, none⟩ = some (.slice a L1.length c)) (first | assumption | go_keep) ((go_at_call 19; refine (HC.out _ HPd (by assumption)).mono ?_; rintro e w8 ⟨rfl, HP8, hS8⟩))
          clear HPd hS hS' HC
          try clear hS8
          go_wp2_with fail
          go_roundw
          case rel => exact ⟨k + 1, L1, F1, ⟨by have := HK20.out; omega, HLL.out⟩, by go_num, HP8⟩
          case measure => have := HK20.out; simp [intOf]; omega
        · have t0 : (u0.tmod 4 == 0) = false := by rw [hr]; rfl
          have t1 : (u0.tmod 4 == 1) = false := by rw [hr]; rfl
          have t2 : (u0.tmod 4 == 2) = true := by rw [hr]; rfl
          clear hr
          obtain ⟨L1, hL1⟩ : ∃ M, dropD u1 L = M := ⟨_, rfl⟩
          obtain ⟨E, hE⟩ : ∃ E : Bool, hasD u1 L = E := ⟨_, rfl⟩
          have HL1 := Lib.hid hL1
          have HE := Lib.hid hE
          have HLL : Hid (L1.length ≤ k + 1) := Lib.hid (by rw [← hL1]; have := dropD_len u1 L; have := HK.out; omega)
          clear hL1 hE
          have s0 : (E != E) = false := by simp
          go_wp2_with fail
          obtain ⟨x, hx⟩ : ∃ x, x = wr.heap.size := ⟨_, rfl⟩
          obtain ⟨W, hW⟩ : ∃ W, W = wr.alloc (.cells #[.int .u64 u0, .int .u64 u1, .int .u64 u2] 30) := ⟨_, rfl⟩
          rw [← hW, ← hx] at HX
          rw [← hW, ← hx]
          clear hW hx
          have HPd := Lib.hid HX.out.drewn
          have hS := HPd.out.cells
          have hS' := hS
          clear HX
          go_region_held3 (fun w' => w'.cell? ⟨x, 1, none⟩ = some (.int .u64 u1) ∧ w'.cell? ⟨x, 2, none⟩ = some (.int .u64 u2)) (first | assumption | go_keep) (first | (go_at_call 12; refine (drop_x HPd.out u1 L1 E (by have := HK20.out; have := HK.out; omega) WU1.out HL1.out HE.out).mono ?_; rintro e w4 ⟨F1, rfl, h4⟩; have HP4 := Lib.hid h4; have hS4 := h4.cells; clear h4) | (go_at_call 13; refine (rdrop_x HP4.out u1 L1 E (by have := HK20.out; have := HK.out; omega) HL1.out HE.out).mono ?_; rintro e w5 ⟨rfl, h5⟩; have HP5 := Lib.hid h5; have hS5 := h5.cells; clear h5))
          have HP := Lib.hid HP5.out.bo
          clear HPd hS hS' HP5
          try clear hS4 HP4
          try clear hS5
          obtain ⟨z, y, hzy⟩ : ∃ z y, firstD L1 = (z, y) := ⟨_, _, rfl⟩
          have HZY := Lib.hid hzy
          clear hzy
          go_wp2_with fail
          refine (first_b HP.out z y (by have := HLL.out; have := HK20.out; have := HK.out; omega) HZY.out).mono ?_
          rintro e wm ⟨rfl, hp⟩
          replace HP := Lib.hid hp
          clear hp
          go_wp2_with fail
          refine (rfirst_b HP.out z y HZY.out).mono ?_
          rintro e wn ⟨rfl, hp⟩
          replace HP := Lib.hid hp
          clear hp
          have s1 : (z != z) = false := by simp
          have s2 : (y != y) = false := by simp
          have s3 : ((L1.length : Int) != (L1.length : Int)) = false := by simp
          have HPd := Lib.hid HP.out.drewn
          obtain ⟨a, c, hS, -⟩ := HPd.out.row
          have hS' := hS
          have HC : Hid (∀ W, Hid (Bo w F1 W p q L1 L1 most) → W.cell? ⟨q, 0, none⟩ = some (.slice a L1.length c) → Calls Try.prog 19 #[.pointer (some ⟨p, 0, none⟩)] W fun e w' => e = .returned (.int .i64 (L1.length : Int)) ∧ Hid (Bo w F1 w' p q L1 L1 most) ∧ w'.cell? ⟨q, 0, none⟩ = some (.slice a L1.length c)) := Lib.hid (fun W h hc => (len_s h.out.al _ (by have := HLL.out; have := HK20.out; have := HK.out; omega) rfl).mono (fun e w' ⟨h1, hb⟩ => ⟨h1, Lib.hid (h.out.below hb), (hb.cell (by exact h.out.ra.lt)).trans hc⟩))
          clear HP
          go_wp2_with fail
          go_region_held3 (fun w' => w'.cell? ⟨q, 0, none⟩ = some (.slice a L1.length c)) (first | assumption | go_keep) ((go_at_call 19; refine (HC.out _ HPd (by assumption)).mono ?_; rintro e w8 ⟨rfl, HP8, hS8⟩))
          clear HPd hS hS' HC
          try clear hS8
          go_wp2_with fail
          go_roundw
          case rel => exact ⟨k + 1, L1, F1, ⟨by have := HK20.out; omega, HLL.out⟩, by go_num, HP8⟩
          case measure => have := HK20.out; simp [intOf]; omega
        · have t0 : (u0.tmod 4 == 0) = false := by rw [hr]; rfl
          have t1 : (u0.tmod 4 == 1) = false := by rw [hr]; rfl
          have t2 : (u0.tmod 4 == 2) = false := by rw [hr]; rfl
          have t3 : (u0.tmod 4 == 3) = true := by rw [hr]; rfl
          clear hr
          obtain ⟨L1, hL1⟩ : ∃ M, restD u2 L = M := ⟨_, rfl⟩
          obtain ⟨ks, hE⟩ : ∃ ks, dueD u2 L = ks := ⟨_, rfl⟩
          have HL1 := Lib.hid hL1
          have HE := Lib.hid hE
          have HLL : Hid (L1.length ≤ k + 1) := Lib.hid (by rw [← hL1]; have := due_len u2 L; have := HK.out; omega)
          clear hL1 hE
          go_wp2_with fail
          obtain ⟨x, hx⟩ : ∃ x, x = wr.heap.size := ⟨_, rfl⟩
          obtain ⟨W, hW⟩ : ∃ W, W = wr.alloc (.cells #[.int .u64 u0, .int .u64 u1, .int .u64 u2] 30) := ⟨_, rfl⟩
          rw [← hW, ← hx] at HX
          rw [← hW, ← hx]
          clear hW hx
          have HPd := Lib.hid HX.out.drewn
          have hS := HPd.out.cells
          have hS' := hS
          clear HX
          go_region_held3 (fun w' => w'.cell? ⟨x, 1, none⟩ = some (.int .u64 u1) ∧ w'.cell? ⟨x, 2, none⟩ = some (.int .u64 u2)) (first | assumption | go_keep) (first | (go_at_call 15; refine (due_x HPd.out u2 L1 ks (by have := HK20.out; have := HK.out; omega) WU2.out HL1.out HE.out).mono ?_; rintro e w4 ⟨F1, aA, cA, rfl, hd4, hq4, h4⟩; have HD4 := Lib.hid hd4; have HQ4 := Lib.hid hq4; have HP4 := Lib.hid h4; have hS4 := h4.cells; clear h4 hd4 hq4) | (go_at_call 16; refine (rdue_x HP4.out u2 L1 ks (by have := HK20.out; have := HK.out; omega) HL1.out HE.out (a := aA) (c := cA) (n := ks.length) (xs := ks) HD4.out HQ4.out).mono ?_; rintro e w5 ⟨aB, cB, rfl, hb5, ha5, h5⟩; have HA5 := Lib.hid ha5; have HB5 := Lib.hid hb5; have HP5 := Lib.hid h5; have hS5 := h5.cells; clear h5 ha5 hb5) | (go_at_call 14; refine (rsame_true aA aB ks.length cA cB ks w5 rfl HA5.out HB5.out).mono ?_; rintro e w6 ⟨rfl, hb6⟩; have HP6 := Lib.hid (HP5.out.below hb6); have hS6 := HP6.out.cells; clear hb6))
          have HP := Lib.hid HP6.out.bo
          clear HPd hS hS' HP6
          try clear hS4 HP4 HD4 HQ4
          try clear hS5 HP5 HA5 HB5
          try clear hS6
          obtain ⟨z, y, hzy⟩ : ∃ z y, firstD L1 = (z, y) := ⟨_, _, rfl⟩
          have HZY := Lib.hid hzy
          clear hzy
          go_wp2_with fail
          refine (first_b HP.out z y (by have := HLL.out; have := HK20.out; have := HK.out; omega) HZY.out).mono ?_
          rintro e wm ⟨rfl, hp⟩
          replace HP := Lib.hid hp
          clear hp
          go_wp2_with fail
          refine (rfirst_b HP.out z y HZY.out).mono ?_
          rintro e wn ⟨rfl, hp⟩
          replace HP := Lib.hid hp
          clear hp
          have s1 : (z != z) = false := by simp
          have s2 : (y != y) = false := by simp
          have s3 : ((L1.length : Int) != (L1.length : Int)) = false := by simp
          have HPd := Lib.hid HP.out.drewn
          obtain ⟨a, c, hS, -⟩ := HPd.out.row
          have hS' := hS
          have HC : Hid (∀ W, Hid (Bo w F1 W p q L1 L1 most) → W.cell? ⟨q, 0, none⟩ = some (.slice a L1.length c) → Calls Try.prog 19 #[.pointer (some ⟨p, 0, none⟩)] W fun e w' => e = .returned (.int .i64 (L1.length : Int)) ∧ Hid (Bo w F1 w' p q L1 L1 most) ∧ w'.cell? ⟨q, 0, none⟩ = some (.slice a L1.length c)) := Lib.hid (fun W h hc => (len_s h.out.al _ (by have := HLL.out; have := HK20.out; have := HK.out; omega) rfl).mono (fun e w' ⟨h1, hb⟩ => ⟨h1, Lib.hid (h.out.below hb), (hb.cell (by exact h.out.ra.lt)).trans hc⟩))
          clear HP
          go_wp2_with fail
          go_region_held3 (fun w' => w'.cell? ⟨q, 0, none⟩ = some (.slice a L1.length c)) (first | assumption | go_keep) ((go_at_call 19; refine (HC.out _ HPd (by assumption)).mono ?_; rintro e w8 ⟨rfl, HP8, hS8⟩))
          clear HPd hS hS' HC
          try clear hS8
          go_wp2_with fail
          go_roundw
          case rel => exact ⟨k + 1, L1, F1, ⟨by have := HK20.out; omega, HLL.out⟩, by go_num, HP8⟩
          case measure => have := HK20.out; simp [intOf]; omega
      · have h21 : decide ((k : Int) < 40) = false := by simp; omega
        have HL : Hid (L.length ≤ 1000) := Lib.hid (by omega)
        clear hlt h20 HZ hk
        obtain ⟨ks, hks⟩ : ∃ ks, dueD 18446744073709551615 L = ks := ⟨_, rfl⟩
        have hall := due_all (now := 18446744073709551615) (L := L) (fun o ho => (HP.out.al.al.rise.2.2 o ho).2.2)
        have HKS := Lib.hid hks
        have HRS := Lib.hid hall.2
        clear hks hall
        go_wp2_with fail
        refine (due_b HP.out 18446744073709551615 [] ks HL.out ⟨by decide, by decide⟩ HRS.out HKS.out).mono ?_
        rintro e wa ⟨Fa, aA, cA, rfl, hd, hq, hp⟩
        have HD := Lib.hid hd
        have HQ := Lib.hid hq
        have HP2 := Lib.hid hp
        clear hd hq hp HP
        go_wp2_with fail
        refine (rdue_b HP2.out 18446744073709551615 [] ks HL.out HRS.out HKS.out HD.out HQ.out).mono ?_
        rintro e wb ⟨aB, cB, rfl, hr, hd, hp⟩
        have HD2 := Lib.hid hd
        have HR := Lib.hid hr
        have HP3 := Lib.hid hp
        clear hd hr hp HP2 HD HQ
        obtain ⟨a', c', hv, hw⟩ := HD2.out.at
        injection hv with hv1 hv2 hv3
        subst hv1; subst hv3
        have HW := Lib.hid hw
        clear hw hv2 HD2
        go_wp2_with fail
        refine (rsame_true _ _ ks.length _ _ ks _ rfl HW.out HR.out).mono ?_
        rintro e wc ⟨rfl, hb⟩
        have HP4 := Lib.hid (HP3.out.below hb)
        clear hb HP3 HW HR
        go_wp2_with fail
        refine (len_b HP4.out 0 (by simp) rfl).mono ?_
        rintro e wd ⟨rfl, hp⟩
        have HP5 := Lib.hid hp
        clear hp HP4
        go_wp2_with fail
        refine (fixed_any _).mono ?_
        rintro e we ⟨rfl, hb⟩
        have HP6 := Lib.hid (HP5.out.below hb)
        clear hb HP5
        go_wp2_with fail
        go_ret
        exact ⟨rfl, HP6.out.al.low⟩
    · have hlt1 : decide (k < len1) = false := by simpa using hlt
      have HL : Hid (L.length ≤ 1000) := Lib.hid (by omega)
      clear hlt HZ hk
      obtain ⟨ks, hks⟩ : ∃ ks, dueD 18446744073709551615 L = ks := ⟨_, rfl⟩
      have hall := due_all (now := 18446744073709551615) (L := L) (fun o ho => (HP.out.al.al.rise.2.2 o ho).2.2)
      have HKS := Lib.hid hks
      have HRS := Lib.hid hall.2
      clear hks hall
      go_wp2_with fail
      refine (due_b HP.out 18446744073709551615 [] ks HL.out ⟨by decide, by decide⟩ HRS.out HKS.out).mono ?_
      rintro e wa ⟨Fa, aA, cA, rfl, hd, hq, hp⟩
      have HD := Lib.hid hd
      have HQ := Lib.hid hq
      have HP2 := Lib.hid hp
      clear hd hq hp HP
      go_wp2_with fail
      refine (rdue_b HP2.out 18446744073709551615 [] ks HL.out HRS.out HKS.out HD.out HQ.out).mono ?_
      rintro e wb ⟨aB, cB, rfl, hr, hd, hp⟩
      have HD2 := Lib.hid hd
      have HR := Lib.hid hr
      have HP3 := Lib.hid hp
      clear hd hr hp HP2 HD HQ
      obtain ⟨a', c', hv, hw⟩ := HD2.out.at
      injection hv with hv1 hv2 hv3
      subst hv1; subst hv3
      have HW := Lib.hid hw
      clear hw hv2 HD2
      go_wp2_with fail
      refine (rsame_true _ _ ks.length _ _ ks _ rfl HW.out HR.out).mono ?_
      rintro e wc ⟨rfl, hb⟩
      have HP4 := Lib.hid (HP3.out.below hb)
      clear hb HP3 HW HR
      go_wp2_with fail
      refine (len_b HP4.out 0 (by simp) rfl).mono ?_
      rintro e wd ⟨rfl, hp⟩
      have HP5 := Lib.hid hp
      clear hp HP4
      go_wp2_with fail
      refine (fixed_any _).mono ?_
      rintro e we ⟨rfl, hb⟩
      have HP6 := Lib.hid (HP5.out.below hb)
      clear hb HP5
      go_wp2_with fail
      go_ret
      exact ⟨rfl, HP6.out.al.low⟩

set_option maxRecDepth 100000 in
theorem lifted (os : Os) (started : os.Started) (H : Type) (enc : TypeId × Value → H) :
    ReturnsInHanded {} Try.checked os 3 .any (Rows.alarmDoesSpec.pre6 enc Try.prog Try.f3 Rows.alarmDoesRow.domain false) (Rows.alarmDoesSpec.post enc Try.prog Try.f3 false true false false) := by
  refine returnsInHanded_of_change (C := Try.checked) own started (by kernel_rfl) Try.func3
    (ChangeSpec.witness6 (enc := enc) (C := Try.checked) false ⟨#[], #[.int .i64 0, .slice none 0 0], []⟩ 8 (by kernel_rfl) (by kernel_rfl) (by kernel_rfl) (by kernel_rfl)) ?_
  intro W base args ds gs before hval0 hW hcnd _
  have hval : ∀ (j : Nat) t v, Try.f3.params[j]? = some t → args[j]? = some v → Value.okWide Try.prog W .any base t v := hval0
  have hW' := hW
  obtain ⟨p, q, hA0, hV, rfl, hfz, hnd⟩ := hW
  have hA : DataW.TrodAll enc Try.prog W 0 (fun _ => true) true Try.f3.params.toList args.toList ds p := hA0
  rw [Try.params3] at hA hval
  obtain ⟨v0, vs0, d0, ds0, p0, q0, hargs, rfl, rfl, h0, r0⟩ := trodAll_cons hA
  obtain ⟨v1, vs1, d1, ds1, p1, q1, rfl, rfl, rfl, h1, r1⟩ := trodAll_cons r0
  obtain ⟨rfl, rfl, rfl⟩ := trodAll_nil r1
  obtain rfl : args = #[v0, v1] := by cases args; simp_all
  obtain ⟨rfl, rfl⟩ := trodVars_none hV
  obtain ⟨a0, rfl, rfl, rfl, w0⟩ := open_int Try.underlying3 (hval 0 3 v0 rfl rfl) h0
  obtain ⟨a1, len1, cap1, rfl⟩ := okWide_slice Try.underlying22 (hval 1 22 v1 rfl rfl)
  have k1 := h1
  have lt1 : ∀ x ∈ p1, x.block < W.heap.size := by obtain ⟨m, hm⟩ := k1; exact DataW.trod_lt m _ _ _ hm
  obtain ⟨Z1, w1⟩ : ∃ Z, Arrs .u64 3 W a1 len1 cap1 Z := by
    obtain ⟨fuel, hf⟩ := h1
    exact open_arrs Try.underlying22 Try.underlying30 Try.underlying29 (by kernel_rfl) (by kernel_rfl) (by omega) (by simpa [Value.cells] using hf)
  clear hA0 hval0
  refine (walk a0 a1 len1 cap1 Z1 W w0 w1).mono fun e W' ⟨he, bel⟩ => ?_
  subst he
  exact ⟨_, rfl, _, _, _, [], _, [], hW', trodAll_mk1 (shut_bool Try.underlying4 _), (trodAll_cons_mk (shut_int Try.underlying3 w0) (trodAll_cons_mk (Below.trod laidOut (by kernel_rfl) (of_decide_eq_true (by kernel_rfl)) k1 bel lt1) trodAll_mk0)), rfl, bel.frame _, fun h => by cases h⟩

theorem over : Rows.alarmDoesRow.holds Try.pinned (OpenSpec.ofChange Rows.alarmDoesSpec) :=
  OpenClaim.holds_of_wide 3 Try.f3 rfl rfl rfl rfl rfl rfl rfl ⟨rfl, rfl, rfl, rfl, rfl⟩ rfl rfl rfl rfl rfl (by kernel_rfl) Try.func3 (by kernel_rfl)
    (of_decide_eq_true (by kernel_rfl)) (by unfold Func.isWrapper; first | (rw [if_pos (by decide +kernel)]; kernel_rfl) | (rw [if_neg (by decide +kernel)]; exact ⟨rfl, rfl⟩))
    (fun os started H enc _ => lifted os started H enc)

theorem proved : Rows.AlarmDoesSaid := over
#print axioms proved
end Go.Proofs.Ytcnfchjiiglijaa.alarmDoes
