/- AlarmFirst: at the least time something is due, ahead of it nothing; behind that the least time is a later one, or there is none. No condition. -/
import Derived.Test.YtcnfchjiiglijaaRows
import Derived.Test.YtcnfchjiiglijaaHeapS
import Derived.WalkKit
import Derived.ProofKit
import Derived.OpenShut
import Derived.ShutString
import Derived.ChangeOld
import Derived.Below
import Derived.Test.YtcnfchjiiglijaaAlarmX
import Derived.Test.YtcnfchjiiglijaaAlarmMovesW
import Derived.Test.YtcnfchjiiglijaaArrs
namespace Go.Proofs.Ytcnfchjiiglijaa.alarmFirst
open Go.ChangeShapes Go.WideShapes Go.ChangeAt Go.RowKit
open Go.ChangeMaps (open_string shut_string)
open Go.Proofs.Ytcnfchjiiglijaa
set_option linter.unusedVariables false
set_option linter.unusedSimpArgs false
set_option maxRecDepth 20000

theorem own : ownKnob Try.prog.godebug = none := by kernel_rfl
theorem laidOut : laidOutB Try.prog = true := by kernel_rfl
/-- Two numbers of a row that came in. -/
def Row2 (b off : Nat) (u0 u1 : Int) (w : World) : Prop := w.cell? ⟨b, off, none⟩ = some (.int .u64 u0) ∧ w.cell? ⟨b, off + 1, none⟩ = some (.int .u64 u1)
theorem Row2.of {b off : Nat} {u0 u1 : Int} {w w' : World} (h : Row2 b off u0 u1 w) (hb : Below w.heap.size w w') (hl : b < w.heap.size) : Row2 b off u0 u1 w' := by
  have c := hb.block b hl
  have e : ∀ o, w'.cell? ⟨b, o, none⟩ = w.cell? ⟨b, o, none⟩ := fun o => by simp [World.cell?, c]
  exact ⟨by rw [e]; exact h.1, by rw [e]; exact h.2⟩
theorem i64_of {x : Int} (h : 0 ≤ x) (k : x ≤ 9223372036854775807) : IntKind.i64.wrap x = x := by simp [IntKind.wrap, IntKind.signed, IntKind.bits]; omega
set_option maxHeartbeats 4000000 in
set_option maxRecDepth 100000 in
theorem walk (a0 : Option Addr) (len0 cap0 : Nat) (Z0 : Nat → Nat → Int) (w : World) (w0 : Arrs .u64 2 w a0 len0 cap0 Z0) :
    Calls Try.prog 7 #[.slice a0 len0 cap0] w fun e w' => e = .returned (.bool true) ∧ Below w.heap.size w w' := by
  obtain ⟨hcm, hlc, b, off, hz⟩ := w0
  have HZ := Lib.hid hz
  unfold maxLen at hcm
  clear hz
  go_enter Try.func7, Try.ntmps7
  go_wp2_with fail
  refine (new_s 100 100 w w (Below.refl _ _) rfl).mono ?_
  rintro e w1 ⟨p, F1, rfl, ha, hfn, hb⟩
  have HA := Lib.hid ha
  clear ha hfn hb
  go_wp2_with fail
  go_loopw [4] (fun i wr => ∃ k : Nat, ∃ L : List On, ∃ F, (k ≤ 20 ∧ L.length ≤ k) ∧ i = .int .i64 (k : Nat) ∧ Hid (AlS w F wr p L 100)) (fun i _ => 20 - (intOf i).toNat)
  case atStart => exact ⟨0, [], F1, ⟨Nat.zero_le _, Nat.le_refl _⟩, rfl, HA⟩
  case round =>
    clear HA
    obtain ⟨k, L, F, hk, rfl, HA⟩ := hrel
    by_cases hlt : k < len0
    · have hlt1 : (k : Int) < (len0 : Int) := by omega
      by_cases h20 : k < 20
      · have h21 : (k : Int) < 20 := by omega
        obtain ⟨rfl, hcl⟩ := HZ.out k hlt
        obtain ⟨q0, wf0⟩ := hcl 0 (by omega)
        obtain ⟨q1, wf1⟩ := hcl 1 (by omega)
        have hbw : b < w.heap.size := block_lt_of_cell q0
        obtain ⟨u0, hu0⟩ : ∃ u, u = Z0 k 0 := ⟨_, rfl⟩
        rw [← hu0] at q0 wf0
        obtain ⟨u1, hu1⟩ : ∃ u, u = Z0 k 1 := ⟨_, rfl⟩
        rw [← hu1] at q1 wf1
        have WU0 : Hid (U64 u0) := Lib.hid (Go.bounds_u64 wf0)
        have WU1 : Hid (U64 u1) := Lib.hid (Go.bounds_u64 wf1)
        have HR := Lib.hid (show Row2 b (off + k * 2) u0 u1 w from ⟨q0, q1⟩)
        have HBW := Lib.hid hbw
        have HK := Lib.hid hk
        have HK20 := Lib.hid h20
        obtain ⟨L1, hL1⟩ : ∃ M, M = insD ⟨u0, u1⟩ (dropD u0 L) := ⟨_, rfl⟩
        have HP : Hid (putD 100 u0 u1 L = (L1, 0)) := Lib.hid (by rw [hL1]; exact put_fits (Or.inr (by have := hk.2; omega)))
        have HL1 : Hid (L1.length ≤ k + 1) := Lib.hid (by rw [hL1, put_len]; have := hk.2; split <;> omega)
        clear hu0 wf0 q0 hu1 wf1 q1 hcl hk h20 hL1 hbw
        have HPd : Hid (AlS w F wr.drew p L 100) := Lib.hid (HA.out.below ((Below.refl _ _).drew))
        have hS : wr.drew.cell? ⟨b, off + k * 2, none⟩ = some (.int .u64 u0) ∧ wr.drew.cell? ⟨b, off + k * 2 + 1, none⟩ = some (.int .u64 u1) := HR.out.of HPd.out.low HBW.out
        have hS' := hS
        have HC : Hid (∀ W, Hid (AlS w F W p L 100) → Calls Try.prog 10 #[.pointer (some ⟨p, 0, none⟩), .int .u64 u0, .int .u64 u1] W fun e w' => ∃ F', e = .returned (.int .i64 0) ∧ Hid (AlS w F' w' p L1 100)) := Lib.hid (fun W h => (put_s h.out u0 u1 0 L1 0 (by have := HK.out; omega) WU0.out WU1.out HP.out rfl).mono (fun e w' h => by obtain ⟨F', h1, h2, _⟩ := h; exact ⟨F', h1, Lib.hid h2⟩))
        clear HA
        go_wp2
        go_region_held3 (fun w' => w'.cell? ⟨b, off + k * 2, none⟩ = some (.int .u64 u0) ∧ w'.cell? ⟨b, off + k * 2 + 1, none⟩ = some (.int .u64 u1)) (first | assumption | go_keep) ((go_at_call 10; refine (HC.out _ HPd).mono ?_; rintro e w4 ⟨F', rfl, HP4⟩; have hS4 : w4.cell? ⟨b, off + k * 2, none⟩ = some (.int .u64 u0) ∧ w4.cell? ⟨b, off + k * 2 + 1, none⟩ = some (.int .u64 u1) := HR.out.of HP4.out.low HBW.out))
        clear HPd hS hS' HC
        try clear hS4
        go_wp2_with fail
        go_roundw
        case rel => exact ⟨k + 1, L1, F', ⟨by have := HK20.out; omega, HL1.out⟩, by go_num, HP4⟩
        case measure => have := HK20.out; simp [intOf]; omega
      · have h21 : decide ((k : Int) < 20) = false := by simp; omega
        replace hk : L.length ≤ 20 := by omega
        clear hlt h20 HZ
        go_wp2_with fail
        go_loopw [5] (fun i wr => ∃ k : Nat, ∃ L : List On, ∃ F, L.length + k ≤ 20 ∧ i = .int .i64 (k : Nat) ∧ Hid (AlS w F wr p L 100)) (fun i _ => 21 - (intOf i).toNat)
        case atStart => exact ⟨0, L, F, by omega, rfl, HA⟩
        case round =>
          clear HA L F hk
          obtain ⟨k, L, F, hk, rfl, HA⟩ := hrel
          have h21 : (k : Int) < 21 := by omega
          cases L with
          | nil =>
            go_wp2_with fail
            refine (len_s HA.out 0 (by simp) rfl).mono ?_
            rintro e wa ⟨rfl, hb⟩
            replace HA := Lib.hid (HA.out.below hb)
            clear hb
            go_wp2_with fail
            refine (first_s HA.out 0 false (by simp) rfl).mono ?_
            rintro e wb ⟨rfl, hb⟩
            replace HA := Lib.hid (HA.out.below hb)
            clear hb
            go_wp2_with fail
            refine (due_s HA.out 18446744073709551615 [] [] (by simp) ⟨by decide, by decide⟩ rfl rfl).mono ?_
            rintro e wc ⟨Fwc, vE, rfl, hd, ha, hf, hc⟩
            obtain ⟨aE, cE, hvE, -⟩ := hd.at
            subst hvE
            replace HA := Lib.hid ha
            clear ha hd hf hc
            go_wp2_with fail
            refine (fixed_any _).mono ?_
            rintro e wd ⟨rfl, hb⟩
            replace HA := Lib.hid (HA.out.below hb)
            clear hb
            go_wp2_with fail
            go_ret
            exact ⟨rfl, HA.out.low⟩
          | cons o r =>
            obtain ⟨hs, hnt, hu⟩ := HA.out.al.rise
            obtain ⟨n, hn⟩ : ∃ n : Int, ((o :: r).length : Int) = n := ⟨_, rfl⟩
            obtain ⟨T, hT⟩ : ∃ T, o.at_ = T := ⟨_, rfl⟩
            have hTu : U64 T := by rw [← hT]; exact (hu o (by simp)).2
            obtain ⟨ks, hks⟩ : ∃ ks, dueD T (o :: r) = ks := ⟨_, rfl⟩
            obtain ⟨L', hL'⟩ : ∃ L', restD T (o :: r) = L' := ⟨_, rfl⟩
            have l0 := due_len T (o :: r)
            rw [hks, hL'] at l0
            have l1 : 1 ≤ ks.length := by rw [← hks, (due_some (by omega)).1]; simp
            have hlate : ∀ x, x ∈ L' → T < x.at_ := fun x hx => rest_late hs x (by rw [hL']; exact hx)
            obtain ⟨m, hm⟩ : ∃ m : Int, (L'.length : Int) = m := ⟨_, rfl⟩
            obtain ⟨x, y, hxy⟩ : ∃ x y, firstD L' = (x, y) := ⟨_, _, rfl⟩
            have hy : y = false ∨ decide (x ≤ T) = false := by
              cases L' with
              | nil => injection hxy with _ q; exact Or.inl q.symm
              | cons o' r' =>
                injection hxy with q _
                have := hlate o' (by simp)
                refine Or.inr (decide_eq_false ?_)
                omega
            have HK : Hid ((o :: r).length + k ≤ 20) := Lib.hid hk
            have HK2 : Hid (L'.length + (k + 1) ≤ 20) := Lib.hid (by omega)
            have HN := Lib.hid hn
            have HF : Hid (firstD (o :: r) = (T, true)) := Lib.hid (by rw [← hT]; rfl)
            have HKS := Lib.hid hks
            have HL := Lib.hid hL'
            have HM := Lib.hid hm
            have HXY := Lib.hid hxy
            have HT := Lib.hid hTu
            have HE : Hid (0 < T → dueD (T - 1) (o :: r) = [] ∧ restD (T - 1) (o :: r) = o :: r) := Lib.hid (fun _ => due_none (by omega))
            have t1 : (n != n) = false := by simp
            have t2 : decide ((ks.length : Int) < 1) = false := decide_eq_false (by omega)
            have l2 := l0
            rw [List.length_cons] at l2
            have tw : wrap64 (n - (ks.length : Int)) = m := by rw [← hm, ← hn, List.length_cons]; unfold wrap64; omega
            have t3 : (m != wrap64 (n - (ks.length : Int))) = false := by rw [tw]; simp
            clear l2 tw
            have t4 : 0 < T → IntKind.u64.wrap (T - 1) = T - 1 := fun q => wrap_u64 (by omega) (by have := hTu.2; omega)
            have T4 := Lib.hid t4
            clear hs hnt hu hn hT hTu hks hL' l0 l1 hlate hm hxy hk t4
            go_wp2_with fail
            refine (len_s HA.out n (by have := HK.out; omega) HN.out).mono ?_
            rintro e wa ⟨rfl, hb⟩
            replace HA := Lib.hid (HA.out.below hb)
            clear hb
            go_wp2_with fail
            refine (first_s HA.out T true (by have := HK.out; omega) HF.out).mono ?_
            rintro e wb ⟨rfl, hb⟩
            replace HA := Lib.hid (HA.out.below hb)
            clear hb
            rcases Int.lt_or_le 0 T with hz | hz
            · have HZ := Lib.hid hz
              have q0 : decide (0 < T) = true := decide_eq_true hz
              clear hz
              go_wp2_with fail
              rw [T4.out HZ.out]
              refine (due_s HA.out (T - 1) (o :: r) [] (by have := HK.out; omega) ⟨by have := HZ.out; omega, by have := HT.out.2; omega⟩ (HE.out HZ.out).2 (HE.out HZ.out).1).mono ?_
              rintro e wc ⟨Fwc, vE, rfl, hd, ha, hf, hc⟩
              obtain ⟨aE, cE, hvE, -⟩ := hd.at
              subst hvE
              replace HA := Lib.hid ha
              clear ha hd hf hc
              go_wp2_with fail
              refine (len_s HA.out n (by have := HK.out; omega) HN.out).mono ?_
              rintro e we ⟨rfl, hb⟩
              replace HA := Lib.hid (HA.out.below hb)
              clear hb
              go_wp2_with fail
              refine (due_s HA.out T L' ks (by have := HK.out; omega) HT.out HL.out HKS.out).mono ?_
              rintro e wf ⟨Fwf, vX, rfl, hd, ha, hf, hc⟩
              obtain ⟨aX, cX, hvX, -⟩ := hd.at
              subst hvX
              replace HA := Lib.hid ha
              clear ha hd hf hc
              go_wp2_with fail
              refine (first_s HA.out x y (by have := HK2.out; omega) HXY.out).mono ?_
              rintro e wg ⟨rfl, hb⟩
              replace HA := Lib.hid (HA.out.below hb)
              clear hb
              go_wp2_with fail
              refine (len_s HA.out m (by have := HK2.out; omega) HM.out).mono ?_
              rintro e wh ⟨rfl, hb⟩
              replace HA := Lib.hid (HA.out.below hb)
              clear hb
              rcases hy with hy | hy
              · subst hy
                go_wp2_with fail
                go_roundw
                case rel => exact ⟨k + 1, L', _, HK2.out, by go_num, HA⟩
                case measure => have := HK.out; simp [intOf]; omega
              · cases y
                · go_wp2_with fail
                  go_roundw
                  case rel => exact ⟨k + 1, L', _, HK2.out, by go_num, HA⟩
                  case measure => have := HK.out; simp [intOf]; omega
                · go_wp2_with fail
                  go_roundw
                  case rel => exact ⟨k + 1, L', _, HK2.out, by go_num, HA⟩
                  case measure => have := HK.out; simp [intOf]; omega
            · have q0 : decide (0 < T) = false := decide_eq_false (by omega)
              clear hz
              go_wp2_with fail
              refine (len_s HA.out n (by have := HK.out; omega) HN.out).mono ?_
              rintro e we ⟨rfl, hb⟩
              replace HA := Lib.hid (HA.out.below hb)
              clear hb
              go_wp2_with fail
              refine (due_s HA.out T L' ks (by have := HK.out; omega) HT.out HL.out HKS.out).mono ?_
              rintro e wf ⟨Fwf, vX, rfl, hd, ha, hf, hc⟩
              obtain ⟨aX, cX, hvX, -⟩ := hd.at
              subst hvX
              replace HA := Lib.hid ha
              clear ha hd hf hc
              go_wp2_with fail
              refine (first_s HA.out x y (by have := HK2.out; omega) HXY.out).mono ?_
              rintro e wg ⟨rfl, hb⟩
              replace HA := Lib.hid (HA.out.below hb)
              clear hb
              go_wp2_with fail
              refine (len_s HA.out m (by have := HK2.out; omega) HM.out).mono ?_
              rintro e wh ⟨rfl, hb⟩
              replace HA := Lib.hid (HA.out.below hb)
              clear hb
              rcases hy with hy | hy
              · subst hy
                go_wp2_with fail
                go_roundw
                case rel => exact ⟨k + 1, L', _, HK2.out, by go_num, HA⟩
                case measure => have := HK.out; simp [intOf]; omega
              · cases y
                · go_wp2_with fail
                  go_roundw
                  case rel => exact ⟨k + 1, L', _, HK2.out, by go_num, HA⟩
                  case measure => have := HK.out; simp [intOf]; omega
                · go_wp2_with fail
                  go_roundw
                  case rel => exact ⟨k + 1, L', _, HK2.out, by go_num, HA⟩
                  case measure => have := HK.out; simp [intOf]; omega
    · have hlt1 : decide (k < len0) = false := by simpa using hlt
      replace hk : L.length ≤ 20 := by omega
      clear hlt HZ
      go_wp2_with fail
      go_loopw [5] (fun i wr => ∃ k : Nat, ∃ L : List On, ∃ F, L.length + k ≤ 20 ∧ i = .int .i64 (k : Nat) ∧ Hid (AlS w F wr p L 100)) (fun i _ => 21 - (intOf i).toNat)
      case atStart => exact ⟨0, L, F, by omega, rfl, HA⟩
      case round =>
        clear HA L F hk
        obtain ⟨k, L, F, hk, rfl, HA⟩ := hrel
        have h21 : (k : Int) < 21 := by omega
        cases L with
        | nil =>
          go_wp2_with fail
          refine (len_s HA.out 0 (by simp) rfl).mono ?_
          rintro e wa ⟨rfl, hb⟩
          replace HA := Lib.hid (HA.out.below hb)
          clear hb
          go_wp2_with fail
          refine (first_s HA.out 0 false (by simp) rfl).mono ?_
          rintro e wb ⟨rfl, hb⟩
          replace HA := Lib.hid (HA.out.below hb)
          clear hb
          go_wp2_with fail
          refine (due_s HA.out 18446744073709551615 [] [] (by simp) ⟨by decide, by decide⟩ rfl rfl).mono ?_
          rintro e wc ⟨Fwc, vE, rfl, hd, ha, hf, hc⟩
          obtain ⟨aE, cE, hvE, -⟩ := hd.at
          subst hvE
          replace HA := Lib.hid ha
          clear ha hd hf hc
          go_wp2_with fail
          refine (fixed_any _).mono ?_
          rintro e wd ⟨rfl, hb⟩
          replace HA := Lib.hid (HA.out.below hb)
          clear hb
          go_wp2_with fail
          go_ret
          exact ⟨rfl, HA.out.low⟩
        | cons o r =>
          obtain ⟨hs, hnt, hu⟩ := HA.out.al.rise
          obtain ⟨n, hn⟩ : ∃ n : Int, ((o :: r).length : Int) = n := ⟨_, rfl⟩
          obtain ⟨T, hT⟩ : ∃ T, o.at_ = T := ⟨_, rfl⟩
          have hTu : U64 T := by rw [← hT]; exact (hu o (by simp)).2
          obtain ⟨ks, hks⟩ : ∃ ks, dueD T (o :: r) = ks := ⟨_, rfl⟩
          obtain ⟨L', hL'⟩ : ∃ L', restD T (o :: r) = L' := ⟨_, rfl⟩
          have l0 := due_len T (o :: r)
          rw [hks, hL'] at l0
          have l1 : 1 ≤ ks.length := by rw [← hks, (due_some (by omega)).1]; simp
          have hlate : ∀ x, x ∈ L' → T < x.at_ := fun x hx => rest_late hs x (by rw [hL']; exact hx)
          obtain ⟨m, hm⟩ : ∃ m : Int, (L'.length : Int) = m := ⟨_, rfl⟩
          obtain ⟨x, y, hxy⟩ : ∃ x y, firstD L' = (x, y) := ⟨_, _, rfl⟩
          have hy : y = false ∨ decide (x ≤ T) = false := by
            cases L' with
            | nil => injection hxy with _ q; exact Or.inl q.symm
            | cons o' r' =>
              injection hxy with q _
              have := hlate o' (by simp)
              refine Or.inr (decide_eq_false ?_)
              omega
          have HK : Hid ((o :: r).length + k ≤ 20) := Lib.hid hk
          have HK2 : Hid (L'.length + (k + 1) ≤ 20) := Lib.hid (by omega)
          have HN := Lib.hid hn
          have HF : Hid (firstD (o :: r) = (T, true)) := Lib.hid (by rw [← hT]; rfl)
          have HKS := Lib.hid hks
          have HL := Lib.hid hL'
          have HM := Lib.hid hm
          have HXY := Lib.hid hxy
          have HT := Lib.hid hTu
          have HE : Hid (0 < T → dueD (T - 1) (o :: r) = [] ∧ restD (T - 1) (o :: r) = o :: r) := Lib.hid (fun _ => due_none (by omega))
          have t1 : (n != n) = false := by simp
          have t2 : decide ((ks.length : Int) < 1) = false := decide_eq_false (by omega)
          have l2 := l0
          rw [List.length_cons] at l2
          have tw : wrap64 (n - (ks.length : Int)) = m := by rw [← hm, ← hn, List.length_cons]; unfold wrap64; omega
          have t3 : (m != wrap64 (n - (ks.length : Int))) = false := by rw [tw]; simp
          clear l2 tw
          have t4 : 0 < T → IntKind.u64.wrap (T - 1) = T - 1 := fun q => wrap_u64 (by omega) (by have := hTu.2; omega)
          have T4 := Lib.hid t4
          clear hs hnt hu hn hT hTu hks hL' l0 l1 hlate hm hxy hk t4
          go_wp2_with fail
          refine (len_s HA.out n (by have := HK.out; omega) HN.out).mono ?_
          rintro e wa ⟨rfl, hb⟩
          replace HA := Lib.hid (HA.out.below hb)
          clear hb
          go_wp2_with fail
          refine (first_s HA.out T true (by have := HK.out; omega) HF.out).mono ?_
          rintro e wb ⟨rfl, hb⟩
          replace HA := Lib.hid (HA.out.below hb)
          clear hb
          rcases Int.lt_or_le 0 T with hz | hz
          · have HZ := Lib.hid hz
            have q0 : decide (0 < T) = true := decide_eq_true hz
            clear hz
            go_wp2_with fail
            rw [T4.out HZ.out]
            refine (due_s HA.out (T - 1) (o :: r) [] (by have := HK.out; omega) ⟨by have := HZ.out; omega, by have := HT.out.2; omega⟩ (HE.out HZ.out).2 (HE.out HZ.out).1).mono ?_
            rintro e wc ⟨Fwc, vE, rfl, hd, ha, hf, hc⟩
            obtain ⟨aE, cE, hvE, -⟩ := hd.at
            subst hvE
            replace HA := Lib.hid ha
            clear ha hd hf hc
            go_wp2_with fail
            refine (len_s HA.out n (by have := HK.out; omega) HN.out).mono ?_
            rintro e we ⟨rfl, hb⟩
            replace HA := Lib.hid (HA.out.below hb)
            clear hb
            go_wp2_with fail
            refine (due_s HA.out T L' ks (by have := HK.out; omega) HT.out HL.out HKS.out).mono ?_
            rintro e wf ⟨Fwf, vX, rfl, hd, ha, hf, hc⟩
            obtain ⟨aX, cX, hvX, -⟩ := hd.at
            subst hvX
            replace HA := Lib.hid ha
            clear ha hd hf hc
            go_wp2_with fail
            refine (first_s HA.out x y (by have := HK2.out; omega) HXY.out).mono ?_
            rintro e wg ⟨rfl, hb⟩
            replace HA := Lib.hid (HA.out.below hb)
            clear hb
            go_wp2_with fail
            refine (len_s HA.out m (by have := HK2.out; omega) HM.out).mono ?_
            rintro e wh ⟨rfl, hb⟩
            replace HA := Lib.hid (HA.out.below hb)
            clear hb
            rcases hy with hy | hy
            · subst hy
              go_wp2_with fail
              go_roundw
              case rel => exact ⟨k + 1, L', _, HK2.out, by go_num, HA⟩
              case measure => have := HK.out; simp [intOf]; omega
            · cases y
              · go_wp2_with fail
                go_roundw
                case rel => exact ⟨k + 1, L', _, HK2.out, by go_num, HA⟩
                case measure => have := HK.out; simp [intOf]; omega
              · go_wp2_with fail
                go_roundw
                case rel => exact ⟨k + 1, L', _, HK2.out, by go_num, HA⟩
                case measure => have := HK.out; simp [intOf]; omega
          · have q0 : decide (0 < T) = false := decide_eq_false (by omega)
            clear hz
            go_wp2_with fail
            refine (len_s HA.out n (by have := HK.out; omega) HN.out).mono ?_
            rintro e we ⟨rfl, hb⟩
            replace HA := Lib.hid (HA.out.below hb)
            clear hb
            go_wp2_with fail
            refine (due_s HA.out T L' ks (by have := HK.out; omega) HT.out HL.out HKS.out).mono ?_
            rintro e wf ⟨Fwf, vX, rfl, hd, ha, hf, hc⟩
            obtain ⟨aX, cX, hvX, -⟩ := hd.at
            subst hvX
            replace HA := Lib.hid ha
            clear ha hd hf hc
            go_wp2_with fail
            refine (first_s HA.out x y (by have := HK2.out; omega) HXY.out).mono ?_
            rintro e wg ⟨rfl, hb⟩
            replace HA := Lib.hid (HA.out.below hb)
            clear hb
            go_wp2_with fail
            refine (len_s HA.out m (by have := HK2.out; omega) HM.out).mono ?_
            rintro e wh ⟨rfl, hb⟩
            replace HA := Lib.hid (HA.out.below hb)
            clear hb
            rcases hy with hy | hy
            · subst hy
              go_wp2_with fail
              go_roundw
              case rel => exact ⟨k + 1, L', _, HK2.out, by go_num, HA⟩
              case measure => have := HK.out; simp [intOf]; omega
            · cases y
              · go_wp2_with fail
                go_roundw
                case rel => exact ⟨k + 1, L', _, HK2.out, by go_num, HA⟩
                case measure => have := HK.out; simp [intOf]; omega
              · go_wp2_with fail
                go_roundw
                case rel => exact ⟨k + 1, L', _, HK2.out, by go_num, HA⟩
                case measure => have := HK.out; simp [intOf]; omega

set_option maxRecDepth 100000 in
theorem lifted (os : Os) (started : os.Started) (H : Type) (enc : TypeId × Value → H) :
    ReturnsInHanded {} Try.checked os 7 .any (Rows.alarmFirstSpec.pre6 enc Try.prog Try.f7 Rows.alarmFirstRow.domain false) (Rows.alarmFirstSpec.post enc Try.prog Try.f7 false true false false) := by
  refine returnsInHanded_of_change (C := Try.checked) own started (by kernel_rfl) Try.func7
    (ChangeSpec.witness6 (enc := enc) (C := Try.checked) false ⟨#[], #[.slice none 0 0], []⟩ 8 (by kernel_rfl) (by kernel_rfl) (by kernel_rfl) (by kernel_rfl)) ?_
  intro W base args ds gs before hval0 hW hcnd _
  have hval : ∀ (j : Nat) t v, Try.f7.params[j]? = some t → args[j]? = some v → Value.okWide Try.prog W .any base t v := hval0
  have hW' := hW
  obtain ⟨p, q, hA0, hV, rfl, hfz, hnd⟩ := hW
  have hA : DataW.TrodAll enc Try.prog W 0 (fun _ => true) true Try.f7.params.toList args.toList ds p := hA0
  rw [Try.params7] at hA hval
  obtain ⟨v0, vs0, d0, ds0, p0, q0, hargs, rfl, rfl, h0, r0⟩ := trodAll_cons hA
  obtain ⟨rfl, rfl, rfl⟩ := trodAll_nil r0
  obtain rfl : args = #[v0] := by cases args; simp_all
  obtain ⟨rfl, rfl⟩ := trodVars_none hV
  obtain ⟨a0, len0, cap0, rfl⟩ := okWide_slice Try.underlying47 (hval 0 47 v0 rfl rfl)
  have k0 := h0
  have lt0 : ∀ x ∈ p0, x.block < W.heap.size := by obtain ⟨m, hm⟩ := k0; exact DataW.trod_lt m _ _ _ hm
  obtain ⟨Z0, w0⟩ : ∃ Z, Arrs .u64 2 W a0 len0 cap0 Z := by
    obtain ⟨fuel, hf⟩ := h0
    exact open_arrs Try.underlying47 Try.underlying48 Try.underlying29 (by kernel_rfl) (by kernel_rfl) (by omega) (by simpa [Value.cells] using hf)
  clear hA0 hval0
  refine (walk a0 len0 cap0 Z0 W w0).mono fun e W' ⟨he, bel⟩ => ?_
  subst he
  exact ⟨_, rfl, _, _, _, [], _, [], hW', trodAll_mk1 (shut_bool Try.underlying4 _), (trodAll_cons_mk (Below.trod laidOut (by kernel_rfl) (of_decide_eq_true (by kernel_rfl)) k0 bel lt0) trodAll_mk0), rfl, bel.frame _, fun h => by cases h⟩

theorem over : Rows.alarmFirstRow.holds Try.pinned (OpenSpec.ofChange Rows.alarmFirstSpec) :=
  OpenClaim.holds_of_wide 7 Try.f7 rfl rfl rfl rfl rfl rfl rfl ⟨rfl, rfl, rfl, rfl, rfl⟩ rfl rfl rfl rfl rfl (by kernel_rfl) Try.func7 (by kernel_rfl)
    (of_decide_eq_true (by kernel_rfl)) (by unfold Func.isWrapper; first | (rw [if_pos (by decide +kernel)]; kernel_rfl) | (rw [if_neg (by decide +kernel)]; exact ⟨rfl, rfl⟩))
    (fun os started H enc _ => lifted os started H enc)

theorem proved : Rows.AlarmFirstSaid := over
#print axioms proved
end Go.Proofs.Ytcnfchjiiglijaa.alarmFirst
