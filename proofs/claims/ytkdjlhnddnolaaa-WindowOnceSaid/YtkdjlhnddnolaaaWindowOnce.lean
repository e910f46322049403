/- WindowOnce: of any numbers that come, in any order, none is taken twice; one that is not too far below the greatest one is taken once. No condition. -/
import Derived.Test.YtkdjlhnddnolaaaRows
import Derived.Test.YtkdjlhnddnolaaaWinO
import Derived.WalkKit
import Derived.ProofKit
import Derived.OpenShut
import Derived.ShutString
import Derived.ChangeOld
import Derived.Below
namespace Go.Proofs.Ytkdjlhnddnolaaa.windowOnce
open Go.ChangeShapes Go.WideShapes Go.ChangeAt Go.RowKit
open Go.ChangeMaps (open_string shut_string)
open Go.Proofs.Ytkdjlhnddnolaaa
set_option linter.unusedVariables false
set_option linter.unusedSimpArgs false
set_option maxRecDepth 20000

theorem own : ownKnob Try.prog.godebug = none := by kernel_rfl
theorem laidOut : laidOutB Try.prog = true := by kernel_rfl

set_option maxHeartbeats 4000000 in
set_option maxRecDepth 100000 in
theorem walk (a0 : Option Addr) (len0 cap0 : Nat) (zs0 : List Int) (x1 : Int) (w : World) (w0 : IsRow .u8 w a0 len0 cap0 zs0) (w1 : (Lit.int .u64 x1).wf = true) :
    Calls Try.prog 4 #[.slice a0 len0 cap0, .int .u64 x1] w fun e w' => e = .returned (.bool true) ∧ Below w.heap.size w w' := by
  obtain ⟨ks, hln, hr, hw, _⟩ := w0.row
  have HLN := Lib.hid hln
  have HRW := Lib.hid hr
  have HW := Lib.hid hw
  have hm0 : len0 ≤ 9223372036854775807 := by have := hr.len; omega
  clear hln hr hw w0
  obtain ⟨y0, y1⟩ := Go.bounds_u64 w1
  obtain ⟨f0, rfl⟩ := Int.eq_ofNat_of_zero_le y0
  obtain ⟨F, hF⟩ : ∃ F, f0 / 2 = F := ⟨_, rfl⟩
  have eF : (f0 : Int) / 2 = (F : Int) := by omega
  have bF : (F : Int) ≤ 9223372036854775807 := by omega
  clear w1 y0 y1 hF
  obtain ⟨wv, hwv⟩ : ∃ wv, wv = w.alloc (.cells #[] 22) := ⟨_, rfl⟩
  obtain ⟨ww, hww⟩ : ∃ ww, ww = wv.alloc (.cells #[.int .u64 0, .int .u64 0] 24 : Obj) := ⟨_, rfl⟩
  obtain ⟨g0, hg0⟩ : ∃ g0, g0 = w.heap.size := ⟨_, rfl⟩
  obtain ⟨V, hV⟩ : ∃ V, g0 + 1 = V := ⟨_, rfl⟩
  have hV2 : V = wv.heap.size := by rw [← hV, hg0, hwv]; simp
  have hlow : Below w.heap.size w wv := by rw [hwv]; exact below_alloc _ _
  have HS : Hid (St w V ⟨0, 0⟩ ww) := Lib.hid (by rw [hww, hV2]; exact St.new w wv hlow 0 0)
  have HR : Hid (Own 22 .u64 w.heap.size (.slice (some ⟨g0, 0, none⟩) 0 0) (nums []) ww) := Lib.hid (by
    have h9 := Own.new 22 .u64 w (Nat.le_refl w.heap.size)
    rw [← hwv, ← hg0] at h9
    rw [hww, ← hg0]
    exact h9.below (below_alloc _ _))
  have HV : Hid ((Value.slice (some ⟨g0, 0, none⟩) 0 0).ownBlock ≠ some V) := Lib.hid (by simp [Value.ownBlock]; omega)
  go_enter Try.func4, Try.ntmps4
  go_upto_region 2 with fail
  rw [← hg0, hV, ← hwv, ← hww]
  clear hg0 hV hwv hww hV2 hlow
  go_wp2_with fail
  go_loopw [6, 7, 8] (fun s6 s7 s8 wr => ∃ (k : Nat) (T : List Nat) (v : Wn) (tp : Nat) (u : Value), (k ≤ 60 ∧ T.length ≤ k) ∧ s8 = .int .i64 (k : Nat) ∧ s7 = .int .u64 (tp : Nat) ∧ u = s6 ∧ (∃ g c, u = .slice g T.length c) ∧ Hid (Own 22 .u64 w.heap.size u (nums T) wr) ∧ Hid (u.ownBlock ≠ some V) ∧ Hid (Inv T v ∧ tp = v.next - 1) ∧ Hid (St w V v wr)) (fun _ _ i _ => 60 - (intG i).toNat)
  case atStart => exact ⟨0, [], ⟨0, 0⟩, 0, _, ⟨Nat.zero_le _, Nat.le_refl _⟩, rfl, rfl, rfl, ⟨_, _, rfl⟩, HR, HV, Lib.hid ⟨Inv.nil, rfl⟩, HS⟩
  case round =>
    clear HS HR HV
    obtain ⟨k, T, v, tp, u, hk, rfl, rfl, rfl, ⟨au, cu, hu⟩, HR, HV, HI, HS⟩ := hrel
    subst hu
    obtain ⟨n, hn⟩ : ∃ n, T.length = n := ⟨_, rfl⟩
    have HTL : Hid (T.length = n ∧ T.length ≤ 60) := Lib.hid ⟨hn, by omega⟩
    rw [hn] at HR HV ⊢
    have n60 : (n : Int) ≤ 60 := by omega
    obtain ⟨N, B⟩ := v
    have HTP : Hid (tp = (⟨N, B⟩ : Wn).next - 1) := Lib.hid HI.out.2
    replace HI := Lib.hid HI.out.1
    have h1 := HI.out.ok.next
    have h2 := HI.out.ok.bits
    simp only at h1 h2
    unfold topN at h1
    have HOK : Hid (N ≤ 18446744073709551615 ∧ B ≤ 18446744073709551615) := Lib.hid ⟨h1, by omega⟩
    have HKT : Hid (T.length ≤ k) := Lib.hid hk.2
    clear hn h1 h2
    by_cases hlt : k < len0 ∧ k < 60
    · obtain ⟨h1, h2⟩ := hlt
      obtain ⟨q1, q2, bk, off, q3⟩ := HRW.out
      obtain ⟨hqa, hc⟩ := q3 k (by rw [HLN.out]; exact h1)
      subst hqa
      have hzw := Go.bounds_u8 (HW.out _ (getD_mem (ks := ks) (k := k) (by rw [HLN.out]; exact h1)))
      obtain ⟨z0, z1⟩ := hzw
      obtain ⟨Z, hZ⟩ := Int.eq_ofNat_of_zero_le z0
      rw [hZ] at hc z1
      have BZ : (Z : Int) ≤ 255 := z1
      have HBL : Hid (bk < w.heap.size) := Lib.hid (block_lt_of_cell hc)
      have hcr : wr.cell? ⟨bk, off + k, none⟩ = some (.int .u8 (Z : Int)) := (HS.out.low.cell HBL.out).trans hc
      clear z0 z1 hZ q1 q2 q3 hc
      obtain ⟨X, hX⟩ : ∃ X, F + Z = X := ⟨_, rfl⟩
      obtain ⟨X3, hX3⟩ : ∃ X3, X + 63 = X3 := ⟨_, rfl⟩
      have eX : (F : Int) + (Z : Int) = (X : Int) := by omega
      have eX3 : (X : Int) + 63 = (X3 : Int) := by omega
      have eW : IntKind.u64.wrap (Z : Int) = (Z : Int) := wrap_u64 (by omega) (by omega)
      have bX : (X : Int) ≤ 9223372036854776100 := by omega
      have HX9 : Hid (X ≤ 18446744073709551615) := Lib.hid (by omega)
      have e1 : decide (k < len0) = true := by simpa using h1
      have e2 : decide (k < 60) = true := by simpa using h2
      have e3 : decide ((k : Int) < 60) = true := decide_eq_true (by omega)
      have h3 : (k : Int) < (len0 : Int) := by omega
      have HK : Hid (k < 60 ∧ T.length ≤ k) := Lib.hid ⟨h2, HKT.out⟩
      clear h1 h2 hk hX hX3
      go_wp2_with fail
      go_loopw [10, 11] (fun c i wx => ∃ (j : Nat), j ≤ n ∧ i = .int .i64 (j : Nat) ∧ c = .bool (decide ((X : Int) ∈ (nums T).take j)) ∧ wx = wr) (fun _ i _ => n - (intG i).toNat)
      case atStart => exact ⟨0, Nat.zero_le _, rfl, rfl, rfl⟩
      case round =>
        obtain ⟨j, hj, rfl, rfl, rfl⟩ := hrel
        by_cases hjn : j < n
        · have hj1 : (j : Int) < (n : Int) := by omega
          have hj0 : (0 : Int) ≤ (j : Int) := by omega
          have hcell : ∃ b2 o2, au = some ⟨b2, o2, none⟩ ∧ wr.cell? ⟨b2, o2 + j, none⟩ = some (.int .u64 ((nums T).getD j 0)) := by
            obtain ⟨a2, c2, e2, _, _, b2, o2, hr⟩ := HR.out.at
            injection e2 with e2 _ _
            obtain ⟨e3, hr⟩ := hr j (by rw [nums_len, HTL.out.1]; exact hjn)
            exact ⟨b2, o2, by rw [e2]; exact e3, hr⟩
          obtain ⟨b2, o2, rfl, hx⟩ := hcell
          have hmt := take_mem (M := nums T) (id := (X : Int)) (j := j) (by rw [nums_len, HTL.out.1]; exact hjn)
          rw [nums_get (by rw [HTL.out.1]; exact hjn)] at hx hmt
          obtain ⟨z, hz⟩ : ∃ z : Nat, T.getD j 0 = z := ⟨_, rfl⟩
          rw [hz] at hx hmt
          have HMT := Lib.hid hmt
          have HJ := Lib.hid hjn
          clear hmt hz hj hjn
          cases hc : decide ((X : Int) ∈ (nums T).take j) with
          | true =>
            have HC := Lib.hid hc
            clear hc
            go_wp2_with fail
            go_roundw
            case rel => exact ⟨j + 1, HJ.out, by go_num, by rw [HMT.out, HC.out]; rfl, trivial⟩
            case measure => have := HJ.out; simp [intG]; omega
          | false =>
            have HC := Lib.hid hc
            clear hc
            cases hc2 : ((z : Int) == (X : Int)) with
            | true =>
              have HC2 := Lib.hid hc2
              go_wp2_with fail
              go_roundw
              case rel => exact ⟨j + 1, HJ.out, by go_num, by rw [HMT.out, HC.out, HC2.out]; rfl, trivial⟩
              case measure => have := HJ.out; simp [intG]; omega
            | false =>
              have HC2 := Lib.hid hc2
              go_wp2_with fail
              go_roundw
              case rel => exact ⟨j + 1, HJ.out, by go_num, by rw [HMT.out, HC.out, HC2.out]; rfl, trivial⟩
              case measure => have := HJ.out; simp [intG]; omega
        · obtain rfl : j = n := by omega
          have htk : (nums T).take j = nums T := by rw [show j = (nums T).length by rw [nums_len]; exact HTL.out.1.symm]; exact List.take_length
          rw [htk]
          have hj1 : decide (j < j) = false := decide_eq_false (Nat.lt_irrefl _)
          clear htk hj hjn
          have hcan := HI.out.can (n := X) (by unfold topN; have := bX; omega)
          have HCI := Lib.hid hcan
          clear hcan
          have bX3 : (X3 : Int) ≤ 9223372036854776200 := by omega
          have btp : (tp : Int) ≤ 18446744073709551615 := by have := HTP.out; have := HOK.out; omega
          cases hm : decide ((X : Int) ∈ nums T) with
          | true =>
            have hmem : X ∈ T := nums_mem.1 (of_decide_eq_true hm)
            have hn0 : 0 < j := by rw [← HTL.out.1]; exact List.length_pos_of_mem hmem
            have g0 : decide ((0 : Int) < (j : Int)) = true := decide_eq_true (by omega)
            have g00 : (0 : Int) < (j : Int) := by omega
            have g01 : 0 < j := hn0
            have HCN : Hid (canW ⟨N, B⟩ X = false) := Lib.hid (by
              cases hc : canW ⟨N, B⟩ X with
              | false => rfl
              | true => exact absurd hmem (HCI.out.1 hc).1)
            have HT : Hid (takeW ⟨N, B⟩ X = (⟨0, 0⟩, 12)) := Lib.hid (by unfold takeW; rw [if_neg (by unfold topN; have := bX; omega), if_pos HCN.out])
            by_cases hold : X3 < tp
            · have o1 : decide ((X3 : Int) < (tp : Int)) = true := decide_eq_true (by omega)
              have o2 : decide (X3 < tp) = true := decide_eq_true hold
              have o3 : (X3 : Int) < (tp : Int) := by omega
              clear hold hm hmem hn0
              obtain ⟨r0, r1, r2, r3⟩ := cells2 HS.out.blk
              simp only at r0 r1
              go_wp2_with fail
              clear r0 r1 r2 r3
              refine (takes_p N B X HOK.out.1 HOK.out.2 HX9.out 0 0 12 HT.out _).mono ?_
              rintro e wt ⟨rfl, hb⟩
              replace HS := Lib.hid (HS.out.below hb)
              replace HR := Lib.hid (HR.out.below hb)
              clear hb
              have hba := below_alloc wt (.cells #[.int .u64 0, .int .u64 0] 24 : Obj)
              have HX : Hid (St w wt.heap.size ⟨0, 0⟩ (wt.alloc (.cells #[.int .u64 0, .int .u64 0] 24 : Obj))) := Lib.hid (St.new w wt HS.out.low 0 0)
              have HNX : Hid (V ≠ wt.heap.size) := Lib.hid (Nat.ne_of_lt (blk_lt HS.out.blk))
              replace HS := Lib.hid (HS.out.below hba)
              replace HR := Lib.hid (HR.out.below hba)
              clear hba
              have HXD := HX
              obtain ⟨r0, r1, r2, r3⟩ := cells2 HS.out.blk
              simp only at r0 r1
              obtain ⟨s0, s1, _, _⟩ := cells2 HX.out.blk
              simp only at s0 s1
              go_wp2_with fail
              clear r0 r1 r2 r3 s0 s1
              refine (can_p N B X HOK.out.1 HOK.out.2 HX9.out false HCN.out _).mono ?_
              rintro e wc ⟨rfl, hb⟩
              replace HS := Lib.hid (HS.out.below hb)
              replace HR := Lib.hid (HR.out.below hb)
              replace HX := Lib.hid (HX.out.below hb)
              clear hb
              obtain ⟨r0, r1, r2, r3⟩ := cells2 HS.out.blk
              simp only at r0 r1
              go_wp2_with fail
              go_roundw
              case rel => exact ⟨k + 1, T, ⟨N, B⟩, tp, _, by have := HK.out; omega, by go_num, rfl, rfl, ⟨au, cu, by rw [HTL.out.1]⟩, HR, HV, Lib.hid ⟨HI.out, HTP.out⟩, HS⟩
              case measure => have := HK.out; simp [intG]; omega
            · have o1 : decide ((X3 : Int) < (tp : Int)) = false := decide_eq_false (by omega)
              have o2 : decide (X3 < tp) = false := decide_eq_false hold
              have HH : Hid (hasW ⟨N, B⟩ X = true) := Lib.hid ((HI.out.has X).2 ⟨hmem, by show N - 1 - X ≤ 63; have h9 : tp = N - 1 := HTP.out; omega⟩)
              clear hold hm hmem hn0
              obtain ⟨r0, r1, r2, r3⟩ := cells2 HS.out.blk
              simp only at r0 r1
              go_wp2_with fail
              clear r0 r1 r2 r3
              refine (takes_p N B X HOK.out.1 HOK.out.2 HX9.out 0 0 12 HT.out _).mono ?_
              rintro e wt ⟨rfl, hb⟩
              replace HS := Lib.hid (HS.out.below hb)
              replace HR := Lib.hid (HR.out.below hb)
              clear hb
              have hba := below_alloc wt (.cells #[.int .u64 0, .int .u64 0] 24 : Obj)
              have HX : Hid (St w wt.heap.size ⟨0, 0⟩ (wt.alloc (.cells #[.int .u64 0, .int .u64 0] 24 : Obj))) := Lib.hid (St.new w wt HS.out.low 0 0)
              have HNX : Hid (V ≠ wt.heap.size) := Lib.hid (Nat.ne_of_lt (blk_lt HS.out.blk))
              replace HS := Lib.hid (HS.out.below hba)
              replace HR := Lib.hid (HR.out.below hba)
              clear hba
              have HXD := HX
              obtain ⟨r0, r1, r2, r3⟩ := cells2 HS.out.blk
              simp only at r0 r1
              obtain ⟨s0, s1, _, _⟩ := cells2 HX.out.blk
              simp only at s0 s1
              go_wp2_with fail
              clear r0 r1 r2 r3 s0 s1
              refine (can_p N B X HOK.out.1 HOK.out.2 HX9.out false HCN.out _).mono ?_
              rintro e wc ⟨rfl, hb⟩
              replace HS := Lib.hid (HS.out.below hb)
              replace HR := Lib.hid (HR.out.below hb)
              replace HX := Lib.hid (HX.out.below hb)
              clear hb
              obtain ⟨r0, r1, r2, r3⟩ := cells2 HS.out.blk
              simp only at r0 r1
              go_wp2_with fail
              clear r0 r1 r2 r3
              refine (has_p N B X HOK.out.1 HOK.out.2 HX9.out true HH.out _).mono ?_
              rintro e wc ⟨rfl, hb⟩
              replace HS := Lib.hid (HS.out.below hb)
              replace HR := Lib.hid (HR.out.below hb)
              clear hb
              go_wp2_with fail
              go_roundw
              case rel => exact ⟨k + 1, T, ⟨N, B⟩, tp, _, by have := HK.out; omega, by go_num, rfl, rfl, ⟨au, cu, by rw [HTL.out.1]⟩, HR, HV, Lib.hid ⟨HI.out, HTP.out⟩, HS⟩
              case measure => have := HK.out; simp [intG]; omega
          | false =>
            have hmem : ¬ X ∈ T := fun q => absurd (nums_mem.2 q) (of_decide_eq_false hm)
            by_cases hj0 : j = 0
            · have hTN : T = [] := List.eq_nil_of_length_eq_zero (by rw [HTL.out.1, hj0])
              have g0 : decide ((0 : Int) < (j : Int)) = false := decide_eq_false (by omega)
              have g01 : decide (0 < j) = false := decide_eq_false (by omega)
              have HCN : Hid (canW ⟨N, B⟩ X = true) := Lib.hid (HCI.out.2 ⟨hmem, fun q => q.1 hTN⟩)
              clear hTN hj0 hmem hm
              obtain ⟨a, b, hab⟩ : ∃ a b, putW ⟨N, B⟩ X = ⟨a, b⟩ := ⟨_, _, rfl⟩
              have HT : Hid (takeW ⟨N, B⟩ X = (⟨a, b⟩, 0)) := Lib.hid (by unfold takeW; rw [if_neg (by unfold topN; have := bX; omega), if_neg (by rw [HCN.out]; decide), hab])
              have hin := HI.out.snoc (n := X) (by unfold topN; have := bX; omega) HCN.out
              have hmx := max_next (v := ⟨N, B⟩) (n := X) HTP.out
              have hph := put_has HI.out.ok HCN.out X
              rw [hab] at hin hmx hph
              have HI2 := Lib.hid hin
              have HH : Hid (hasW ⟨a, b⟩ X = true) := Lib.hid (by rw [hph]; simp)
              have hao := hin.ok.next
              have hbo := hin.ok.bits
              simp only at hao hbo hmx
              unfold topN at hao
              have HAB : Hid (a ≤ 18446744073709551615 ∧ b ≤ 18446744073709551615) := Lib.hid ⟨hao, by omega⟩
              obtain ⟨tp2, htp2⟩ : ∃ t, max tp X = t := ⟨_, rfl⟩
              have HTP2 : Hid (tp2 = a - 1) := Lib.hid (by rw [← htp2]; exact hmx)
              have x1 : max (tp : Int) (X : Int) = (tp2 : Int) := by omega
              have x2 : (if (tp : Int) < (X : Int) then (X : Int) else (tp : Int)) = (tp2 : Int) := by split <;> omega
              have x3 : (if tp < X then (X : Int) else (tp : Int)) = (tp2 : Int) := by split <;> omega
              obtain ⟨n2, hn2⟩ : ∃ n2, j + 1 = n2 := ⟨_, rfl⟩
              have HN2 := Lib.hid hn2
              clear hab hin hmx hph hao hbo htp2 hn2
              obtain ⟨r0, r1, r2, r3⟩ := cells2 HS.out.blk
              simp only at r0 r1
              go_wp2_with fail
              clear r0 r1 r2 r3
              refine (takes_p N B X HOK.out.1 HOK.out.2 HX9.out a b 0 HT.out _).mono ?_
              rintro e wt ⟨rfl, hb⟩
              replace HS := Lib.hid (HS.out.below hb)
              replace HR := Lib.hid (HR.out.below hb)
              clear hb
              have hba := below_alloc wt (.cells #[.int .u64 (a : Int), .int .u64 (b : Int)] 24 : Obj)
              have HX : Hid (St w wt.heap.size ⟨a, b⟩ (wt.alloc (.cells #[.int .u64 (a : Int), .int .u64 (b : Int)] 24 : Obj))) := Lib.hid (St.new w wt HS.out.low a b)
              have HNX : Hid (V ≠ wt.heap.size) := Lib.hid (Nat.ne_of_lt (blk_lt HS.out.blk))
              replace HS := Lib.hid (HS.out.below hba)
              replace HR := Lib.hid (HR.out.below hba)
              clear hba
              obtain ⟨r0, r1, r2, r3⟩ := cells2 HS.out.blk
              simp only at r0 r1
              obtain ⟨s0, s1, _, _⟩ := cells2 HX.out.blk
              simp only at s0 s1
              go_wp2_with fail
              clear r0 r1 r2 r3 s0 s1
              refine (can_p N B X HOK.out.1 HOK.out.2 HX9.out true HCN.out _).mono ?_
              rintro e wc ⟨rfl, hb⟩
              replace HS := Lib.hid (HS.out.below hb)
              replace HR := Lib.hid (HR.out.below hb)
              replace HX := Lib.hid (HX.out.below hb)
              clear hb
              obtain ⟨r0, r1, r2, r3⟩ := cells2 HS.out.blk
              simp only at r0 r1
              obtain ⟨s0, s1, _, _⟩ := cells2 HX.out.blk
              simp only at s0 s1
              obtain ⟨uz, huz⟩ : ∃ uz, uz = (wc.setCell ⟨V, 0, none⟩ (.int .u64 (a : Int))).setCell ⟨V, 1, none⟩ (.int .u64 (b : Int)) := ⟨_, rfl⟩
              have HSZ : Hid (St w V ⟨a, b⟩ uz) := Lib.hid (by rw [huz]; exact HS.out.put a b)
              have HRZ : Hid (Own 22 .u64 w.heap.size (.slice au j cu) (nums T) uz) := Lib.hid (by
                rw [huz]
                exact (HR.out.chg (Chg.setCell wc V 0 _) (fun j hj e => HV.out (by rw [hj, e]))).chg (Chg.setCell _ V 1 _) (fun j hj e => HV.out (by rw [hj, e])))
              have HZZ : Hid (uz.heap.size = wc.heap.size) := Lib.hid (by rw [huz]; simp)
              go_upto_region 19 with fail
              rw [← huz]
              clear huz r0 r1 r2 r3 s0 s1
              go_wp2_with (at_builtin; refine wpList_appH rfl (.tmp 94) (.tmp 96) 37 22 .u64 8 Try.underlying37 infoU (by decide) rfl w.heap.size _ (nums T) (X : Int) _ rfl (HRZ.out.below (below_alloc _ _)) uz.heap.size 1 rfl (heap_alloc_new uz _) (by rw [nums_len]; have := HTL.out; omega) (by have := HSZ.out.low.size; simp; omega) ?_; intro v5 w5 hA hG hB5; have HS5 := Lib.hid ((HSZ.out.below (below_alloc uz (.cells #[.int .u64 (X : Int)] 22))).chg hG (fun e => HV.out e.symm) (fun k e => (World.ownsRow.lt HRZ.out k e.symm).1)); have HV5 : Hid (v5.ownBlock ≠ some V) := Lib.hid (fun e => by rcases hB5 V e with q | q; exact HV.out q; exact absurd (blk_lt HSZ.out.blk) (by simp at q; omega)); rw [nums_snoc] at hA; obtain ⟨a5, c5, hv5, _⟩ := hA.at; have hml : (nums (T ++ [X])).length = n2 := (by rw [nums_len, List.length_append, HTL.out.1, ← HN2.out]; rfl); rw [hml] at hv5; clear hml; subst hv5; have HR5 := Lib.hid hA; obtain ⟨r05, r15, _, _⟩ := cells2 HS5.out.blk; simp only at r05 r15; clear hA hG hB5)
              clear HR HS HX
              have HR := HR5
              have HS := HS5
              clear HR5 HS5 HSZ HRZ HZZ r05 r15
              refine (has_p a b X HAB.out.1 HAB.out.2 HX9.out true HH.out _).mono ?_
              rintro e wc ⟨rfl, hb⟩
              replace HS := Lib.hid (HS.out.below hb)
              replace HR := Lib.hid (HR.out.below hb)
              clear hb
              go_wp2_with fail
              go_roundw
              case rel => exact ⟨k + 1, T ++ [X], ⟨a, b⟩, tp2, _, by have := HK.out; have := HTL.out; simp; omega, by go_num, rfl, rfl, ⟨a5, c5, by rw [List.length_append, HTL.out.1, ← HN2.out]; rfl⟩, HR, HV5, Lib.hid ⟨HI2.out, HTP2.out⟩, HS⟩
              case measure => have := HK.out; simp [intG]; omega
            · have g0 : decide ((0 : Int) < (j : Int)) = true := decide_eq_true (by omega)
              have g00 : (0 : Int) < (j : Int) := by omega
              have g01 : 0 < j := by omega
              have hTN : T ≠ [] := fun e => by have := HTL.out.1; rw [e] at this; simp at this; omega
              by_cases hold : X3 < tp
              · have o1 : decide ((X3 : Int) < (tp : Int)) = true := decide_eq_true (by omega)
                have o2 : decide (X3 < tp) = true := decide_eq_true hold
                have o3 : (X3 : Int) < (tp : Int) := by omega
                have HCN : Hid (canW ⟨N, B⟩ X = false) := Lib.hid (by
                  cases hc : canW ⟨N, B⟩ X with
                  | false => rfl
                  | true => exact absurd ⟨hTN, by show X + 63 < N - 1; have h9 : tp = N - 1 := HTP.out; omega⟩ (HCI.out.1 hc).2)
                have HT : Hid (takeW ⟨N, B⟩ X = (⟨0, 0⟩, 12)) := Lib.hid (by unfold takeW; rw [if_neg (by unfold topN; have := bX; omega), if_pos HCN.out])
                clear hold hm hmem hj0 hTN
                obtain ⟨r0, r1, r2, r3⟩ := cells2 HS.out.blk
                simp only at r0 r1
                go_wp2_with fail
                clear r0 r1 r2 r3
                refine (takes_p N B X HOK.out.1 HOK.out.2 HX9.out 0 0 12 HT.out _).mono ?_
                rintro e wt ⟨rfl, hb⟩
                replace HS := Lib.hid (HS.out.below hb)
                replace HR := Lib.hid (HR.out.below hb)
                clear hb
                have hba := below_alloc wt (.cells #[.int .u64 0, .int .u64 0] 24 : Obj)
                have HX : Hid (St w wt.heap.size ⟨0, 0⟩ (wt.alloc (.cells #[.int .u64 0, .int .u64 0] 24 : Obj))) := Lib.hid (St.new w wt HS.out.low 0 0)
                have HNX : Hid (V ≠ wt.heap.size) := Lib.hid (Nat.ne_of_lt (blk_lt HS.out.blk))
                replace HS := Lib.hid (HS.out.below hba)
                replace HR := Lib.hid (HR.out.below hba)
                clear hba
                have HXD := HX
                obtain ⟨r0, r1, r2, r3⟩ := cells2 HS.out.blk
                simp only at r0 r1
                obtain ⟨s0, s1, _, _⟩ := cells2 HX.out.blk
                simp only at s0 s1
                go_wp2_with fail
                clear r0 r1 r2 r3 s0 s1
                refine (can_p N B X HOK.out.1 HOK.out.2 HX9.out false HCN.out _).mono ?_
                rintro e wc ⟨rfl, hb⟩
                replace HS := Lib.hid (HS.out.below hb)
                replace HR := Lib.hid (HR.out.below hb)
                replace HX := Lib.hid (HX.out.below hb)
                clear hb
                obtain ⟨r0, r1, r2, r3⟩ := cells2 HS.out.blk
                simp only at r0 r1
                go_wp2_with fail
                go_roundw
                case rel => exact ⟨k + 1, T, ⟨N, B⟩, tp, _, by have := HK.out; omega, by go_num, rfl, rfl, ⟨au, cu, by rw [HTL.out.1]⟩, HR, HV, Lib.hid ⟨HI.out, HTP.out⟩, HS⟩
                case measure => have := HK.out; simp [intG]; omega
              · have o1 : decide ((X3 : Int) < (tp : Int)) = false := decide_eq_false (by omega)
                have o2 : decide (X3 < tp) = false := decide_eq_false hold
                have HCN : Hid (canW ⟨N, B⟩ X = true) := Lib.hid (HCI.out.2 ⟨hmem, fun q => by have h9 : tp = N - 1 := HTP.out; have h8 : X + 63 < N - 1 := q.2; omega⟩)
                clear hold hm hmem hj0 hTN
                obtain ⟨a, b, hab⟩ : ∃ a b, putW ⟨N, B⟩ X = ⟨a, b⟩ := ⟨_, _, rfl⟩
                have HT : Hid (takeW ⟨N, B⟩ X = (⟨a, b⟩, 0)) := Lib.hid (by unfold takeW; rw [if_neg (by unfold topN; have := bX; omega), if_neg (by rw [HCN.out]; decide), hab])
                have hin := HI.out.snoc (n := X) (by unfold topN; have := bX; omega) HCN.out
                have hmx := max_next (v := ⟨N, B⟩) (n := X) HTP.out
                have hph := put_has HI.out.ok HCN.out X
                rw [hab] at hin hmx hph
                have HI2 := Lib.hid hin
                have HH : Hid (hasW ⟨a, b⟩ X = true) := Lib.hid (by rw [hph]; simp)
                have hao := hin.ok.next
                have hbo := hin.ok.bits
                simp only at hao hbo hmx
                unfold topN at hao
                have HAB : Hid (a ≤ 18446744073709551615 ∧ b ≤ 18446744073709551615) := Lib.hid ⟨hao, by omega⟩
                obtain ⟨tp2, htp2⟩ : ∃ t, max tp X = t := ⟨_, rfl⟩
                have HTP2 : Hid (tp2 = a - 1) := Lib.hid (by rw [← htp2]; exact hmx)
                have x1 : max (tp : Int) (X : Int) = (tp2 : Int) := by omega
                have x2 : (if (tp : Int) < (X : Int) then (X : Int) else (tp : Int)) = (tp2 : Int) := by split <;> omega
                have x3 : (if tp < X then (X : Int) else (tp : Int)) = (tp2 : Int) := by split <;> omega
                obtain ⟨n2, hn2⟩ : ∃ n2, j + 1 = n2 := ⟨_, rfl⟩
                have HN2 := Lib.hid hn2
                clear hab hin hmx hph hao hbo htp2 hn2
                obtain ⟨r0, r1, r2, r3⟩ := cells2 HS.out.blk
                simp only at r0 r1
                go_wp2_with fail
                clear r0 r1 r2 r3
                refine (takes_p N B X HOK.out.1 HOK.out.2 HX9.out a b 0 HT.out _).mono ?_
                rintro e wt ⟨rfl, hb⟩
                replace HS := Lib.hid (HS.out.below hb)
                replace HR := Lib.hid (HR.out.below hb)
                clear hb
                have hba := below_alloc wt (.cells #[.int .u64 (a : Int), .int .u64 (b : Int)] 24 : Obj)
                have HX : Hid (St w wt.heap.size ⟨a, b⟩ (wt.alloc (.cells #[.int .u64 (a : Int), .int .u64 (b : Int)] 24 : Obj))) := Lib.hid (St.new w wt HS.out.low a b)
                have HNX : Hid (V ≠ wt.heap.size) := Lib.hid (Nat.ne_of_lt (blk_lt HS.out.blk))
                replace HS := Lib.hid (HS.out.below hba)
                replace HR := Lib.hid (HR.out.below hba)
                clear hba
                obtain ⟨r0, r1, r2, r3⟩ := cells2 HS.out.blk
                simp only at r0 r1
                obtain ⟨s0, s1, _, _⟩ := cells2 HX.out.blk
                simp only at s0 s1
                go_wp2_with fail
                clear r0 r1 r2 r3 s0 s1
                refine (can_p N B X HOK.out.1 HOK.out.2 HX9.out true HCN.out _).mono ?_
                rintro e wc ⟨rfl, hb⟩
                replace HS := Lib.hid (HS.out.below hb)
                replace HR := Lib.hid (HR.out.below hb)
                replace HX := Lib.hid (HX.out.below hb)
                clear hb
                obtain ⟨r0, r1, r2, r3⟩ := cells2 HS.out.blk
                simp only at r0 r1
                obtain ⟨s0, s1, _, _⟩ := cells2 HX.out.blk
                simp only at s0 s1
                obtain ⟨uz, huz⟩ : ∃ uz, uz = (wc.setCell ⟨V, 0, none⟩ (.int .u64 (a : Int))).setCell ⟨V, 1, none⟩ (.int .u64 (b : Int)) := ⟨_, rfl⟩
                have HSZ : Hid (St w V ⟨a, b⟩ uz) := Lib.hid (by rw [huz]; exact HS.out.put a b)
                have HRZ : Hid (Own 22 .u64 w.heap.size (.slice au j cu) (nums T) uz) := Lib.hid (by
                  rw [huz]
                  exact (HR.out.chg (Chg.setCell wc V 0 _) (fun j hj e => HV.out (by rw [hj, e]))).chg (Chg.setCell _ V 1 _) (fun j hj e => HV.out (by rw [hj, e])))
                have HZZ : Hid (uz.heap.size = wc.heap.size) := Lib.hid (by rw [huz]; simp)
                go_upto_region 19 with fail
                rw [← huz]
                clear huz r0 r1 r2 r3 s0 s1
                go_wp2_with (at_builtin; refine wpList_appH rfl (.tmp 94) (.tmp 96) 37 22 .u64 8 Try.underlying37 infoU (by decide) rfl w.heap.size _ (nums T) (X : Int) _ rfl (HRZ.out.below (below_alloc _ _)) uz.heap.size 1 rfl (heap_alloc_new uz _) (by rw [nums_len]; have := HTL.out; omega) (by have := HSZ.out.low.size; simp; omega) ?_; intro v5 w5 hA hG hB5; have HS5 := Lib.hid ((HSZ.out.below (below_alloc uz (.cells #[.int .u64 (X : Int)] 22))).chg hG (fun e => HV.out e.symm) (fun k e => (World.ownsRow.lt HRZ.out k e.symm).1)); have HV5 : Hid (v5.ownBlock ≠ some V) := Lib.hid (fun e => by rcases hB5 V e with q | q; exact HV.out q; exact absurd (blk_lt HSZ.out.blk) (by simp at q; omega)); rw [nums_snoc] at hA; obtain ⟨a5, c5, hv5, _⟩ := hA.at; have hml : (nums (T ++ [X])).length = n2 := (by rw [nums_len, List.length_append, HTL.out.1, ← HN2.out]; rfl); rw [hml] at hv5; clear hml; subst hv5; have HR5 := Lib.hid hA; obtain ⟨r05, r15, _, _⟩ := cells2 HS5.out.blk; simp only at r05 r15; clear hA hG hB5)
                clear HR HS HX
                have HR := HR5
                have HS := HS5
                clear HR5 HS5 HSZ HRZ HZZ r05 r15
                refine (has_p a b X HAB.out.1 HAB.out.2 HX9.out true HH.out _).mono ?_
                rintro e wc ⟨rfl, hb⟩
                replace HS := Lib.hid (HS.out.below hb)
                replace HR := Lib.hid (HR.out.below hb)
                clear hb
                go_wp2_with fail
                go_roundw
                case rel => exact ⟨k + 1, T ++ [X], ⟨a, b⟩, tp2, _, by have := HK.out; have := HTL.out; simp; omega, by go_num, rfl, rfl, ⟨a5, c5, by rw [List.length_append, HTL.out.1, ← HN2.out]; rfl⟩, HR, HV5, Lib.hid ⟨HI2.out, HTP2.out⟩, HS⟩
                case measure => have := HK.out; simp [intG]; omega
    · have e12 : decide (k < len0) = false ∨ (decide (k < len0) = true ∧ decide ((k : Int) < 60) = false) := by
        simp only [decide_eq_false_iff_not, decide_eq_true_eq]
        omega
      clear hlt hk
      rcases e12 with e1 | ⟨e1, e2⟩
      all_goals
        go_wp2_with fail
        refine (fixed_any _).mono ?_
        rintro e w99 ⟨rfl, hb⟩
        have HZ := Lib.hid (HS.out.below hb)
        clear hb
        go_wp2_with fail
        go_ret
        exact ⟨rfl, HZ.out.low⟩
set_option maxRecDepth 100000 in
theorem lifted (os : Os) (started : os.Started) (H : Type) (enc : TypeId × Value → H) :
    ReturnsInHanded {} Try.checked os 4 .any (Rows.windowOnceSpec.pre6 enc Try.prog Try.f4 Rows.windowOnceRow.domain false) (Rows.windowOnceSpec.post enc Try.prog Try.f4 false true false false) := by
  refine returnsInHanded_of_change (C := Try.checked) own started (by kernel_rfl) Try.func4
    (ChangeSpec.witness6 (enc := enc) (C := Try.checked) false ⟨#[], #[.slice none 0 0, .int .u64 0], []⟩ 8 (by kernel_rfl) (by kernel_rfl) (by kernel_rfl) (by kernel_rfl)) ?_
  intro W base args ds gs before hval0 hW hcnd _
  have hval : ∀ (j : Nat) t v, Try.f4.params[j]? = some t → args[j]? = some v → Value.okWide Try.prog W .any base t v := hval0
  have hW' := hW
  obtain ⟨p, q, hA0, hV, rfl, hfz, hnd⟩ := hW
  have hA : DataW.TrodAll enc Try.prog W 0 (fun _ => true) true Try.f4.params.toList args.toList ds p := hA0
  rw [Try.params4] at hA hval
  obtain ⟨v0, vs0, d0, ds0, p0, q0, hargs, rfl, rfl, h0, r0⟩ := trodAll_cons hA
  obtain ⟨v1, vs1, d1, ds1, p1, q1, rfl, rfl, rfl, h1, r1⟩ := trodAll_cons r0
  obtain ⟨rfl, rfl, rfl⟩ := trodAll_nil r1
  obtain rfl : args = #[v0, v1] := by cases args; simp_all
  obtain ⟨rfl, rfl⟩ := trodVars_none hV
  obtain ⟨a0, len0, cap0, rfl⟩ := okWide_slice Try.underlying36 (hval 0 36 v0 rfl rfl)
  have k0 := h0
  have lt0 : ∀ x ∈ p0, x.block < W.heap.size := by obtain ⟨m, hm⟩ := k0; exact DataW.trod_lt m _ _ _ hm
  obtain ⟨z0, w0⟩ : ∃ zs, IsRow .u8 W a0 len0 cap0 zs := by
    obtain ⟨fuel, hf⟩ := h0
    rcases open_ints Try.underlying36 Try.underlying5 (by kernel_rfl) hf with ⟨hcs, _⟩ | ⟨x, l, c, zs, hcs, _, hl, hm, hz, _, hcell, hwz⟩
    · simp [Value.cells] at hcs
      obtain ⟨rfl, rfl, rfl⟩ := hcs
      exact ⟨[], .inl ⟨rfl, rfl, rfl, rfl⟩⟩
    · simp [Value.cells] at hcs
      obtain ⟨rfl, rfl, rfl⟩ := hcs
      exact ⟨zs, .inr ⟨_, rfl, hl, hm, by simpa using hz, hcell, hwz⟩⟩
  obtain ⟨a1, rfl, rfl, rfl, w1⟩ := open_int Try.underlying22 (hval 1 22 v1 rfl rfl) h1
  clear hA0 hval0
  refine (walk a0 len0 cap0 z0 a1 W w0 w1).mono fun e W' ⟨he, bel⟩ => ?_
  subst he
  exact ⟨_, rfl, _, _, _, [], _, [], hW', trodAll_mk1 (shut_bool Try.underlying4 _), (trodAll_cons_mk (Below.trod laidOut (by kernel_rfl) (of_decide_eq_true (by kernel_rfl)) k0 bel lt0) (trodAll_cons_mk (shut_int Try.underlying22 w1) trodAll_mk0)), rfl, bel.frame _, fun h => by cases h⟩

theorem over : Rows.windowOnceRow.holds Try.pinned (OpenSpec.ofChange Rows.windowOnceSpec) :=
  OpenClaim.holds_of_wide 4 Try.f4 rfl rfl rfl rfl rfl rfl rfl ⟨rfl, rfl, rfl, rfl, rfl⟩ rfl rfl rfl rfl rfl (by kernel_rfl) Try.func4 (by kernel_rfl)
    (of_decide_eq_true (by kernel_rfl)) (by unfold Func.isWrapper; first | (rw [if_pos (by decide +kernel)]; kernel_rfl) | (rw [if_neg (by decide +kernel)]; exact ⟨rfl, rfl⟩))
    (fun os started H enc _ => lifted os started H enc)

theorem proved : Rows.WindowOnceSaid := over
#print axioms proved
end Go.Proofs.Ytkdjlhnddnolaaa.windowOnce
