/- AlarmOrder: in which order alarms were put makes no difference for the order in which they are due; what was dropped is not. No condition. -/
import Derived.Test.YtcnfchjiiglijaaRows
import Derived.Test.YtcnfchjiiglijaaAlarmTw
import Derived.WalkKit
import Derived.ProofKit
import Derived.OpenShut
import Derived.ShutString
import Derived.ChangeOld
import Derived.Below
import Derived.Test.YtcnfchjiiglijaaAlarmMovesW
import Derived.Test.YtcnfchjiiglijaaArrs
namespace Go.Proofs.Ytcnfchjiiglijaa.alarmOrder
open Go.ChangeShapes Go.WideShapes Go.ChangeAt Go.RowKit
open Go.ChangeMaps (open_string shut_string)
open Go.Proofs.Ytcnfchjiiglijaa
set_option linter.unusedVariables false
set_option linter.unusedSimpArgs false
set_option maxRecDepth 20000

theorem own : ownKnob Try.prog.godebug = none := by kernel_rfl
theorem laidOut : laidOutB Try.prog = true := by kernel_rfl
theorem u8_mod {x : Int} (h : 0 ≤ x ∧ x ≤ 255) : ∃ i : Nat, x.tmod 16 = (i : Int) ∧ i < 16 := by
  rw [Int.tmod_eq_emod_of_nonneg h.1]
  exact ⟨(x % 16).toNat, by omega, by omega⟩
set_option maxHeartbeats 4000000 in
set_option maxRecDepth 100000 in
theorem walk (a0 : Option Addr) (len0 cap0 : Nat) (Z0 : Nat → Nat → Int) (a1 : Int) (w : World) (w0 : Arrs .u8 2 w a0 len0 cap0 Z0) (w1 : (Lit.int .u8 a1).wf = true) :
    Calls Try.prog 4 #[.slice a0 len0 cap0, .int .u8 a1] w fun e w' => e = .returned (.bool true) ∧ Below w.heap.size w w' := by
  obtain ⟨hcm, hlc, b, off, hz⟩ := w0
  have HZ := Lib.hid hz
  unfold maxLen at hcm
  clear hz
  obtain ⟨d, hd, hd16⟩ := u8_mod (Go.bounds_u8 w1)
  have idw0 : IntKind.u64.wrap (d : Int) = (d : Int) := wrap_u64 (by omega) (by omega)
  have idw2 : IntKind.u8.wrap (d : Int) = (d : Int) := by simp [IntKind.wrap, IntKind.signed, IntKind.bits]; omega
  have HD16 : Hid (U64 (d : Int)) := Lib.hid ⟨by omega, by omega⟩
  obtain ⟨N, hN⟩ : ∃ N : Nat, min len0 20 = N := ⟨_, rfl⟩
  have hN1 : min (len0 : Int) 20 = (N : Int) := by omega
  have hN2 : (if (len0 : Int) < 20 then (len0 : Int) else 20) = (N : Int) := by split <;> omega
  have hN3 : (if 20 < (len0 : Int) then 20 else (len0 : Int)) = (N : Int) := by split <;> omega
  have HN : Hid (N ≤ len0 ∧ N ≤ 20) := Lib.hid ⟨by omega, by omega⟩
  clear hN
  go_enter Try.func4, Try.ntmps4
  go_wp2_with fail
  refine (new_s 100 100 w w (Below.refl _ _) rfl).mono ?_
  rintro e wa ⟨p, F1, rfl, ha, hfn, hb⟩
  have HA0 := Lib.hid ha
  clear ha hfn hb
  go_wp2_with fail
  refine (new_s 100 100 w wa HA0.out.low rfl).mono ?_
  rintro e wb ⟨q, G1, rfl, ha, hfn, hb⟩
  have HT0 := Lib.hid (TW.start HA0.out ha hfn hb)
  clear ha hfn hb HA0
  go_wp2_with fail
  generalize wb.alloc (.cells #[] 29) = wc at HT0 ⊢
  generalize wb.heap.size = g2 at HT0 ⊢
  go_loopw [8, 9] (fun v i wr => ∃ (k : Nat) (u : Value) (L : List On) (M : List Int) (F : Nat → Prop), u = v ∧ k ≤ N ∧ i = .int .i64 (k : Nat) ∧ (∃ g c, u = .slice (some ⟨g, 0, none⟩) M.length c) ∧ Hid (TW w F G1 wr p q L [] 100 u M) ∧ Hid (Las L M ∧ L.length ≤ k)) (fun _ i _ => N - (intOf i).toNat)
  case atStart => exact ⟨0, _, [], [], F1, rfl, Nat.zero_le _, rfl, ⟨_, _, rfl⟩, HT0, Lib.hid ⟨Las.nil, Nat.le_refl _⟩⟩
  case round =>
    clear HT0
    obtain ⟨k, u, L, M, F, rfl, hk, rfl, ⟨g, cu, rfl⟩, HT, HL⟩ := hrel
    by_cases hlt : k < N
    · have hlt1 : (k : Int) < (N : Int) := by omega
      have hltl : (k : Int) < (len0 : Int) := by have := HN.out; omega
      obtain ⟨rfl, hcl⟩ := HZ.out k (by have := HN.out; omega)
      obtain ⟨q0, wf0⟩ := hcl 0 (by omega)
      obtain ⟨q1, wf1⟩ := hcl 1 (by omega)
      have hbw : b < w.heap.size := block_lt_of_cell q0
      obtain ⟨u0, hu0⟩ : ∃ u, u = Z0 k 0 := ⟨_, rfl⟩
      rw [← hu0] at q0 wf0
      obtain ⟨u1, hu1⟩ : ∃ u, u = Z0 k 1 := ⟨_, rfl⟩
      rw [← hu1] at q1 wf1
      have y1 := Go.bounds_u8 wf1
      obtain ⟨i, hi, hi16⟩ := u8_mod (Go.bounds_u8 wf0)
      obtain ⟨y10, y11⟩ := y1
      have iw0 : IntKind.u64.wrap (i : Int) = (i : Int) := wrap_u64 (by omega) (by omega)
      have iw1 : IntKind.u64.wrap u1 = u1 := wrap_u64 (by omega) (by omega)
      have iw2 : IntKind.u8.wrap (i : Int) = (i : Int) := by simp [IntKind.wrap, IntKind.signed, IntKind.bits]; omega
      have HI : Hid (i < 16 ∧ U64 (i : Int) ∧ U64 u1 ∧ 0 ≤ u1 ∧ u1 ≤ 255) := Lib.hid ⟨hi16, ⟨by omega, by omega⟩, ⟨by omega, by omega⟩, y10, y11⟩
      have hc8 := Row8.of (show Row8 b (off + k * 2) u0 u1 w from ⟨q0, q1⟩) HT.out.low hbw
      have g0' := hc8.1
      have g1' := hc8.2
      have HK : Hid (k < N) := Lib.hid hlt
      obtain ⟨L1, hL1⟩ : ∃ X, X = insD ⟨(i : Int), u1⟩ (dropD (i : Int) L) := ⟨_, rfl⟩
      have HP : Hid (putD 100 (i : Int) u1 L = (L1, 0)) := Lib.hid (by rw [hL1]; exact put_fits (.inr (by have := HL.out.2; have := HN.out; omega)))
      have HLE := Lib.hid hL1
      have HL1 : Hid (L1.length ≤ k + 1) := Lib.hid (by rw [hL1, put_len]; have := HL.out.2; split <;> omega)
      have HNT := Lib.hid HT.out.a.al.rise.2.1
      clear hu0 wf0 q0 hu1 wf1 q1 hcl hk hbw hc8 hL1 hlt
      obtain ⟨n, hn⟩ : ∃ n, M.length = n := ⟨_, rfl⟩
      rw [hn] at HT ⊢
      have HMN := Lib.hid hn
      clear hn
      go_wp2_with fail
      go_quiet (fail)
      go_wp2_with fail
      have HTD := Lib.hid (HT.out.below (drewN_belowA (Nat.le_refl _) nq))
      generalize wr.drewN nq = wd at HTD g0' g1' ⊢
      clear HT
      refine (put_1 HTD.out (i : Int) u1 0 L1 0 (by have := HL.out.2; have := HN.out; omega) HI.out.2.1 HI.out.2.2.1 HP.out rfl).mono ?_
      rintro e wp ⟨F', rfl, hp⟩
      have HT1 := Lib.hid hp
      clear hp HTD g0' g1'
      go_wp2_with fail
      have hform : ∃ g' c', (Value.slice (some ⟨g, 0, none⟩) n cu) = .slice (some ⟨g', 0, none⟩) M.length c' := ⟨_, _, by rw [HMN.out]⟩
      have HFO := Lib.hid hform
      generalize (Value.slice (some ⟨g, 0, none⟩) n cu) = us at HT1 HFO ⊢
      clear hform
      go_loopw [8] (fun v wx => ∃ (u' : Value) (M' : List Int), u' = v ∧ (∃ g c, u' = .slice (some ⟨g, 0, none⟩) M'.length c) ∧ Hid (TW w F' G1 wx p q L1 [] 100 u' M') ∧ Hid (Las L M')) (fun v _ => 17 - lenA (some v))
      case atStart => exact ⟨_, M, rfl, HFO.out, HT1, Lib.hid HL.out.1⟩
      case round =>
        clear HT1 HFO HMN
        obtain ⟨u', M', rfl, ⟨g', c', rfl⟩, HT1, HLA⟩ := hrel
        have hM16 := HLA.out.few
        obtain ⟨n', hn'⟩ : ∃ n', M'.length = n' := ⟨_, rfl⟩
        rw [hn'] at HT1 ⊢
        have HMN := Lib.hid hn'
        have iwn : IntKind.u64.wrap (n' : Int) = (n' : Int) := wrap_u64 (by omega) (by omega)
        by_cases hle : n' ≤ i
        · have t1 : decide ((n' : Int) ≤ (i : Int)) = true := decide_eq_true (by omega)
          have t2 : decide (n' ≤ i) = true := decide_eq_true hle
          have HSZ : Hid (w.heap.size ≤ wr.heap.size) := Lib.hid HT1.out.low.size
          have HLT : Hid (n' < 16) := Lib.hid (by have := HI.out.1; omega)
          clear hn' hM16 hle
          go_wp2_with (at_builtin; refine wpList_appG rfl (.tmp 56) (.tmp 57) 35 29 .u64 8 Try.underlying35 infoU (by decide) rfl w.heap.size _ M' 1048576 _ rfl (HT1.out.row.below (below_alloc _ _)) wr.heap.size 1 rfl (heap_alloc_new wr _) (by have := HMN.out; have := HLT.out; omega) (by have := HSZ.out; simp; omega) ?_; intro v5 w5 hA hG; have HT5 := Lib.hid (TW.turn (HT1.out.below (below_alloc wr _)) hA hG); have HF5 := Lib.hid (own_pos hA (k := M'.length) (by simp)); clear hA hG)
          go_roundw
          case rel => exact ⟨_, M' ++ [1048576], rfl, HF5.out, HT5, Lib.hid (HLA.out.pad (by have := HMN.out; have := HLT.out; omega))⟩
          case measure =>
            obtain ⟨g6, c6, e6⟩ := HF5.out
            rw [e6]
            have := HMN.out
            have := HLT.out
            simp [lenA]
            omega
        · have t1 : decide ((n' : Int) ≤ (i : Int)) = false := decide_eq_false (by omega)
          have t2 : decide (n' ≤ i) = false := decide_eq_false hle
          have hin : i < M'.length := by omega
          obtain ⟨g9, c9, hu, hgc, hgf, htw⟩ := tw_set HT1.out hin u1
          injection hu with e1 e2 e3
          injection e1 with e1
          injection e1 with e1
          subst e1
          clear e2 e3
          have HTW := Lib.hid htw
          have i1 : (i : Int) < (n' : Int) := by omega
          have i0 : (0 : Int) ≤ (i : Int) := by omega
          have HLP : Hid (Las L1 (M'.set i u1)) := Lib.hid (by rw [HLE.out]; exact HLA.out.put HNT.out hin HI.out.2.2.2)
          have HFM : Hid ((M'.set i u1).length = n') := Lib.hid (by rw [List.length_set]; exact hn')
          clear hn' hM16 hle hin htw
          go_wp2_with fail
          go_roundw
          case rel => exact ⟨k + 1, _, L1, M'.set i u1, F', rfl, HK.out, by go_num, ⟨_, _, by rw [HFM.out]⟩, HTW, Lib.hid ⟨HLP.out, HL1.out⟩⟩
          case measure => have := HK.out; simp [intOf]; omega
    · have hlt1 : decide (k < N) = false := by simpa using hlt
      clear hlt HZ
      obtain ⟨n, hn⟩ : ∃ n, M.length = n := ⟨_, rfl⟩
      rw [hn] at HT ⊢
      have HMN := Lib.hid hn
      have hn16 : n ≤ 16 := by have := HL.out.1.few; omega
      have HN16 := Lib.hid hn16
      have HLN : Hid (L.length ≤ 20) := Lib.hid (by have := HL.out.2; have := HN.out; omega)
      clear hn hk
      go_wp2_with fail
      go_loopw [12] (fun i wx => ∃ (c : Nat) (K : List On) (G : Nat → Prop), c ≤ n ∧ i = .int .i64 ((c : Int) - 1) ∧ Hid (TW w F G wx p q L K 100 (.slice (some ⟨g, 0, none⟩) n cu) M) ∧ Hid (Half L K c ∧ K.length + c ≤ n)) (fun i _ => (intOf i + 1).toNat)
      case atStart => exact ⟨n, [], G1, Nat.le_refl _, rfl, HT, Lib.hid ⟨by rw [← HMN.out]; exact Half.start HL.out.1, by simp⟩⟩
      case round =>
        clear HT
        obtain ⟨c, K, G, hc, rfl, HT, HH⟩ := hrel
        cases c with
        | succ c =>
          have e0 : ((c + 1 : Nat) : Int) - 1 = (c : Int) := by omega
          rw [e0]
          have c1 : (c : Int) < (n : Int) := by omega
          have c0 : (0 : Int) ≤ (c : Int) := by omega
          have c2 : (c : Int) ≤ 16 := by omega
          have hcm' : c < M.length := by have := HMN.out; omega
          have hcell := tw_cell HT.out hcm'
          have hv := HL.out.1.val c hcm'
          obtain ⟨t, ht⟩ : ∃ t, M.getD c 0 = t := ⟨_, rfl⟩
          rw [ht] at hcell hv
          have iwc : IntKind.u64.wrap (c : Int) = (c : Int) := wrap_u64 (by omega) (by omega)
          have HC : Hid (c < n ∧ c < M.length) := Lib.hid ⟨by omega, hcm'⟩
          have hnt := HT.out.b.al.rise.2.1
          by_cases hlt : t < 1048576
          · have t1 : decide (t < 1048576) = true := decide_eq_true hlt
            obtain ⟨K1, hK1⟩ : ∃ X, X = insD ⟨(c : Int), t⟩ (dropD (c : Int) K) := ⟨_, rfl⟩
            have hnew := HH.out.1.new
            have HP : Hid (putD 100 (c : Int) t K = (K1, 0)) := Lib.hid (by rw [hK1]; exact put_fits (.inr (by have := HH.out.2; have := HN16.out; omega)))
            have HHP : Hid (Half L K1 c ∧ K1.length + c ≤ n) := Lib.hid ⟨by have := HH.out.1.put hnt HL.out.1 hcm' (by rw [ht]; exact hlt); rw [ht] at this; rw [hK1]; exact this, by rw [hK1, put_len, hnew]; have := HH.out.2; simp; omega⟩
            have HU : Hid (U64 (c : Int) ∧ U64 t) := Lib.hid ⟨⟨by omega, by omega⟩, ⟨hv.1, by omega⟩⟩
            clear hK1 hnew hcm' hv ht hnt hlt hc e0
            go_wp2_with fail
            refine (put_2 HT.out (c : Int) t 0 K1 0 (by have := HH.out.2; have := HN16.out; omega) HU.out.1 HU.out.2 HP.out rfl).mono ?_
            rintro e wp ⟨G', rfl, hp⟩
            have HT1 := Lib.hid hp
            clear hp
            go_wp2_with fail
            go_roundw
            case rel => exact ⟨c, K1, G', by have := HC.out.1; omega, rfl, HT1, HHP⟩
            case measure => simp [intOf] <;> omega
          · have t1 : decide (t < 1048576) = false := decide_eq_false hlt
            have HHP : Hid (Half L K c ∧ K.length + c ≤ n) := Lib.hid ⟨HH.out.1.skip HL.out.1 (by rw [ht]; exact hlt), by have := HH.out.2; omega⟩
            clear hcm' hv ht hnt hlt hc e0
            go_wp2_with fail
            go_roundw
            case rel => exact ⟨c, K, G, by have := HC.out.1; omega, rfl, HT, HHP⟩
            case measure => simp [intOf] <;> omega
        | zero =>
          have e0 : ((0 : Nat) : Int) - 1 = -1 := rfl
          rw [e0]
          have hKL : K = L := HH.out.1.all HL.out.1 HT.out.a.al.rise.1 HT.out.b.al.rise.1
          subst hKL
          have hrise := HT.out.a.al.rise
          obtain ⟨D, hD⟩ : ∃ D, dropD (d : Int) K = D := ⟨_, rfl⟩
          obtain ⟨hb, hhb⟩ : ∃ hb, hasD (d : Int) K = hb := ⟨_, rfl⟩
          have HDD := Lib.hid (And.intro hD hhb)
          have tbb : (hb != hb) = false := by simp
          have hDs : Srt D := by rw [← hD]; exact drop_srt hrise.1
          have hDm : ∀ o, o ∈ D → o ∈ K := fun o ho => (drop_sub (d : Int) K).subset (by rw [hD]; exact ho)
          have hsm : ∀ o, o ∈ D → o.at_ ≤ 300 := fun o ho => by have := HL.out.1.len hrise.1 o (hDm o ho); omega
          obtain ⟨ks, hks⟩ : ∃ ks, D.map On.id = ks := ⟨_, rfl⟩
          have HDU : Hid (dueD 300 D = ks ∧ restD 300 D = []) := Lib.hid (by have := due_all hsm; rw [hks] at this; exact this)
          obtain ⟨m, hm⟩ : ∃ m, ks.length = m := ⟨_, rfl⟩
          have hDl : D.length = m := by rw [← hm, ← hks, List.length_map]
          have HDL : Hid (D.length ≤ 1000) := Lib.hid (by rw [← hD]; have := dropD_len (d : Int) K; have := HLN.out; omega)
          have HTELL : Hid (∀ i, i < m → ∃ j : Nat, j < n ∧ ks.getD i 0 = (j : Int) ∧ j ≠ d ∧ (0 < i → ∃ j' : Nat, j' < n ∧ ks.getD (i - 1) 0 = (j' : Int) ∧ (M.getD j' 0 < M.getD j 0 ∨ (M.getD j' 0 = M.getD j 0 ∧ j' < j)))) := Lib.hid (fun i hi => by
            obtain ⟨j, h1, h2, h3⟩ := due_tells HL.out.1 hDs hDm (i := i) (by omega)
            have h4 := due_never (d := (d : Int)) hrise.2.1 (i := i) (by rw [hD]; omega)
            rw [hD, hks] at h4
            rw [hks] at h2 h3
            rw [HMN.out] at h1 h3
            exact ⟨j, h1, h2, fun e => h4 (by rw [h2, e]), h3⟩)
          have HM := Lib.hid hm
          clear hD hhb hDs hDm hsm hks hm hDl hrise hc e0
          go_wp2_with fail
          refine (drop_1 HT.out (d : Int) D hb (by have := HLN.out; omega) HD16.out HDD.out.1 HDD.out.2).mono ?_
          rintro e wp ⟨F5, rfl, hp⟩
          have HT1 := Lib.hid hp
          clear hp
          go_wp2_with fail
          refine (drop_2 HT1.out (d : Int) D hb (by have := HLN.out; omega) HD16.out HDD.out.1 HDD.out.2).mono ?_
          rintro e wp ⟨G5, rfl, hp⟩
          have HT2 := Lib.hid hp
          clear hp
          go_wp2_with fail
          refine (due_1 HT2.out 300 [] ks HDL.out ⟨by decide, by decide⟩ HDU.out.2 HDU.out.1).mono ?_
          rintro e wp ⟨F6, x, rfl, hx, hp⟩
          have HT3 := Lib.hid hp
          have HX := Lib.hid hx
          clear hp hx
          go_wp2_with fail
          refine (due_2 HT3.out 300 [] ks HX.out HDL.out ⟨by decide, by decide⟩ HDU.out.2 HDU.out.1).mono ?_
          rintro e wq ⟨G6, y, rfl, hy, hx, hp⟩
          have HT4 := Lib.hid hp
          obtain ⟨ax, cx, rfl, hxr⟩ := hx.at
          obtain ⟨ay, cy, rfl, hyr⟩ := hy.at
          have HXR := Lib.hid hxr
          have HYR := Lib.hid hyr
          have hxl := hxr.len
          rw [HM.out] at hxl ⊢
          clear hp hx hy hxr hyr HX
          go_wp2_with fail
          go_loopw [15] (fun i wx => ∃ j : Nat, j ≤ m ∧ i = .int .i64 (j : Nat) ∧ Hid (Below wq.heap.size wq wx)) (fun i _ => m - (intOf i).toNat)
          case atStart => exact ⟨0, Nat.zero_le _, rfl, Lib.hid (Below.refl _ _)⟩
          case round =>
            obtain ⟨j, hj, rfl, HBQ⟩ := hrel
            have HT9 := Lib.hid (HT4.out.below HBQ.out)
            have HXR9 := Lib.hid (HXR.out.below HBQ.out)
            by_cases hjm : j < m
            · have j1 : (j : Int) < (m : Int) := by omega
              have j0 : (0 : Int) ≤ (j : Int) := by omega
              obtain ⟨J, hJ, hkj, hJd, hprev⟩ := HTELL.out j hjm
              obtain ⟨_, _, b3, o3, hx0⟩ := HXR9.out
              obtain ⟨rfl, hx⟩ := hx0 j (by rw [HM.out]; exact hjm)
              rw [hkj] at hx
              have J1 : (J : Int) < (n : Int) := by omega
              have J0 : (0 : Int) ≤ (J : Int) := by omega
              have t1 : ((J : Int) == (d : Int)) = false := by simp; omega
              have t2 : (J == d) = false := by simp; omega
              have t3 : decide ((n : Int) ≤ (J : Int)) = false := decide_eq_false (by omega)
              have t4 : decide (n ≤ J) = false := decide_eq_false (by omega)
              have iwn : IntKind.u64.wrap (n : Int) = (n : Int) := wrap_u64 (by omega) (by have := HN16.out; omega)
              have HJ := Lib.hid hjm
              have hcell := tw_cell HT9.out (i := J) (by rw [HMN.out]; exact hJ)
              obtain ⟨T, hT⟩ : ∃ T, M.getD J 0 = T := ⟨_, rfl⟩
              rw [hT] at hcell hprev
              by_cases hz : j = 0
              · subst hz
                rw [Nat.add_zero] at hx
                have z1 : decide ((0 : Int) < ((0 : Nat) : Int)) = false := by decide
                have z2 : decide ((0 : Int) < 0) = false := by decide
                clear hprev hx0 hkj hJd hT hjm hj hJ
                go_wp2_with fail
                try dsimp only [List.append]
                go_quiet (fail)
                go_wp2_with fail
                go_roundw
                case rel => exact ⟨0 + 1, HJ.out, by go_num, Lib.hid (HBQ.out.trans (drewN_belowA HBQ.out.size _))⟩
                case measure => have := HJ.out; simp [intOf]; omega
              · obtain ⟨j', hj'⟩ : ∃ j', j = j' + 1 := ⟨j - 1, by omega⟩
                obtain ⟨J', hJ', hkj', hcmp⟩ := hprev (by omega)
                have hjj : j - 1 = j' := by omega
                rw [hjj] at hkj'
                obtain ⟨_, hx'⟩ := hx0 j' (by rw [HM.out]; omega)
                rw [hkj'] at hx'
                have z1 : decide ((0 : Int) < (j : Int)) = true := decide_eq_true (by omega)
                have z2 : decide (0 < j) = true := decide_eq_true (by omega)
                have z3 : (j : Int) - 1 = (j' : Int) := by omega
                have z4 : (j' : Int) < (m : Int) := by omega
                have z5 : (0 : Int) ≤ (j' : Int) := by omega
                have z6 : (J' : Int) < (n : Int) := by omega
                have z7 : (0 : Int) ≤ (J' : Int) := by omega
                have z8 : decide ((J' : Int) < (n : Int)) = true := decide_eq_true z6
                have z9 : decide (J' < n) = true := decide_eq_true hJ'
                have hcell' := tw_cell HT9.out (i := J') (by rw [HMN.out]; exact hJ')
                obtain ⟨T', hT'⟩ : ∃ T', M.getD J' 0 = T' := ⟨_, rfl⟩
                rw [hT'] at hcell' hcmp
                rcases hcmp with hcmp | ⟨hcmp, hlt⟩
                · have s1 : decide (T < T') = false := decide_eq_false (by omega)
                  have s2 : (T' == T) = false := by simp; omega
                  clear hprev hx0 hkj hkj' hJd hT hT' hjm hj hJ hJ' hz hj' hjj hcmp
                  go_wp2_with fail
                  try dsimp only [List.append]
                  go_quiet (fail)
                  go_wp2_with fail
                  go_roundw
                  case rel => exact ⟨j + 1, HJ.out, by go_num, Lib.hid (HBQ.out.trans (drewN_belowA HBQ.out.size _))⟩
                  case measure => have := HJ.out; simp [intOf]; omega
                · subst hcmp
                  have s1 : decide (T' < T') = false := decide_eq_false (by omega)
                  have s2 : (T' == T') = true := by simp
                  have s3 : decide ((J : Int) ≤ (J' : Int)) = false := decide_eq_false (by omega)
                  have s4 : decide (J ≤ J') = false := decide_eq_false (by omega)
                  clear hprev hx0 hkj hkj' hJd hT hT' hjm hj hJ hJ' hz hj' hjj hlt
                  go_wp2_with fail
                  try dsimp only [List.append]
                  go_quiet (fail)
                  go_wp2_with fail
                  go_roundw
                  case rel => exact ⟨j + 1, HJ.out, by go_num, Lib.hid (HBQ.out.trans (drewN_belowA HBQ.out.size _))⟩
                  case measure => have := HJ.out; simp [intOf]; omega
            · obtain rfl : j = m := by omega
              have j1 : decide (j < j) = false := decide_eq_false (Nat.lt_irrefl _)
              clear hj hjm
              go_wp2_with fail
              refine (rsame_true ax ay j cx cy ks _ HM.out.symm HXR9.out (HYR.out.below HBQ.out)).mono ?_
              rintro e wz ⟨rfl, hb2⟩
              have HT5 := Lib.hid (HT9.out.below hb2)
              clear hb2
              go_wp2_with fail
              refine (len_1 HT5.out 0 (by simp) rfl).mono ?_
              rintro e wz2 ⟨rfl, _, hp⟩
              have HT6 := Lib.hid hp
              clear hp
              go_wp2_with fail
              refine (fixed_any _).mono ?_
              rintro e wz3 ⟨rfl, hb3⟩
              have HT7 := Lib.hid (HT6.out.below hb3)
              clear hb3
              go_wp2_with fail
              go_ret
              exact ⟨rfl, HT7.out.low⟩

set_option maxRecDepth 100000 in
theorem lifted (os : Os) (started : os.Started) (H : Type) (enc : TypeId × Value → H) :
    ReturnsInHanded {} Try.checked os 4 .any (Rows.alarmOrderSpec.pre6 enc Try.prog Try.f4 Rows.alarmOrderRow.domain false) (Rows.alarmOrderSpec.post enc Try.prog Try.f4 false true false false) := by
  refine returnsInHanded_of_change (C := Try.checked) own started (by kernel_rfl) Try.func4
    (ChangeSpec.witness6 (enc := enc) (C := Try.checked) false ⟨#[], #[.slice none 0 0, .int .u8 0], []⟩ 8 (by kernel_rfl) (by kernel_rfl) (by kernel_rfl) (by kernel_rfl)) ?_
  intro W base args ds gs before hval0 hW hcnd _
  have hval : ∀ (j : Nat) t v, Try.f4.params[j]? = some t → args[j]? = some v → Value.okWide Try.prog W .any base t v := hval0
  have hW' := hW
  obtain ⟨p, q, hA0, hV, rfl, hfz, hnd⟩ := hW
  have hA : DataW.TrodAll enc Try.prog W 0 (fun _ => true) true Try.f4.params.toList args.toList ds p := hA0
  rw [Try.params4] at hA hval
  obtain ⟨v0, vs0, d0, ds0, p0, q0, hargs, rfl, rfl, h0, r0⟩ := trodAll_cons hA
  obtain ⟨v1, vs1, d1, ds1, p1, q1, rfl, rfl, rfl, h1, r1⟩ := trodAll_cons r0
  obtain ⟨rfl, rfl, rfl⟩ := trodAll_nil r1
  obtain rfl : args = #[v0, v1] := by cases args; simp_all
  obtain ⟨rfl, rfl⟩ := trodVars_none hV
  obtain ⟨a0, len0, cap0, rfl⟩ := okWide_slice Try.underlying42 (hval 0 42 v0 rfl rfl)
  have k0 := h0
  have lt0 : ∀ x ∈ p0, x.block < W.heap.size := by obtain ⟨m, hm⟩ := k0; exact DataW.trod_lt m _ _ _ hm
  obtain ⟨Z0, w0⟩ : ∃ Z, Arrs .u8 2 W a0 len0 cap0 Z := by
    obtain ⟨fuel, hf⟩ := h0
    exact open_arrs Try.underlying42 Try.underlying43 Try.underlying5 (by kernel_rfl) (by kernel_rfl) (by omega) (by simpa [Value.cells] using hf)
  obtain ⟨a1, rfl, rfl, rfl, w1⟩ := open_int Try.underlying5 (hval 1 5 v1 rfl rfl) h1
  clear hA0 hval0
  refine (walk a0 len0 cap0 Z0 a1 W w0 w1).mono fun e W' ⟨he, bel⟩ => ?_
  subst he
  exact ⟨_, rfl, _, _, _, [], _, [], hW', trodAll_mk1 (shut_bool Try.underlying4 _), (trodAll_cons_mk (Below.trod laidOut (by kernel_rfl) (of_decide_eq_true (by kernel_rfl)) k0 bel lt0) (trodAll_cons_mk (shut_int Try.underlying5 w1) trodAll_mk0)), rfl, bel.frame _, fun h => by cases h⟩

theorem over : Rows.alarmOrderRow.holds Try.pinned (OpenSpec.ofChange Rows.alarmOrderSpec) :=
  OpenClaim.holds_of_wide 4 Try.f4 rfl rfl rfl rfl rfl rfl rfl ⟨rfl, rfl, rfl, rfl, rfl⟩ rfl rfl rfl rfl rfl (by kernel_rfl) Try.func4 (by kernel_rfl)
    (of_decide_eq_true (by kernel_rfl)) (by unfold Func.isWrapper; first | (rw [if_pos (by decide +kernel)]; kernel_rfl) | (rw [if_neg (by decide +kernel)]; exact ⟨rfl, rfl⟩))
    (fun os started H enc _ => lifted os started H enc)

theorem proved : Rows.AlarmOrderSaid := over
#print axioms proved
end Go.Proofs.Ytcnfchjiiglijaa.alarmOrder
