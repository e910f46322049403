/- WindowOrder: numbers that are less than 64 apart make the same window in whatever order they come. No condition. -/
import Derived.Test.YtkdjlhnddnolaaaRows
import Derived.Test.YtkdjlhnddnolaaaWinL
import Derived.WalkKit
import Derived.ProofKit
import Derived.OpenShut
import Derived.ShutString
import Derived.ChangeOld
import Derived.Below
namespace Go.Proofs.Ytkdjlhnddnolaaa.windowOrder
open Go.ChangeShapes Go.WideShapes Go.ChangeAt Go.RowKit
open Go.ChangeMaps (open_string shut_string)
open Go.Proofs.Ytkdjlhnddnolaaa
set_option linter.unusedVariables false
set_option linter.unusedSimpArgs false
set_option maxRecDepth 20000

theorem own : ownKnob Try.prog.godebug = none := by kernel_rfl
theorem laidOut : laidOutB Try.prog = true := by kernel_rfl

set_option maxHeartbeats 4000000 in
set_option maxRecDepth 100000 in
theorem walk (a0 : Option Addr) (len0 cap0 : Nat) (zs0 : List Int) (x1 : Int) (w : World) (w0 : IsRow .u8 w a0 len0 cap0 zs0) (w1 : (Lit.int .u64 x1).wf = true) :
    Calls Try.prog 6 #[.slice a0 len0 cap0, .int .u64 x1] w fun e w' => e = .returned (.bool true) ∧ Below w.heap.size w w' := by
  obtain ⟨ks, hln, hr, hw, _⟩ := w0.row
  have HLN := Lib.hid hln
  have HR := Lib.hid hr
  have HW := Lib.hid hw
  have hm0 : len0 ≤ 9223372036854775807 := by have := hr.len; omega
  clear hln hr hw w0
  obtain ⟨y0, y1⟩ := Go.bounds_u64 w1
  obtain ⟨f0, rfl⟩ := Int.eq_ofNat_of_zero_le y0
  obtain ⟨F, hF⟩ : ∃ F, f0 / 2 = F := ⟨_, rfl⟩
  have eF : (f0 : Int) / 2 = (F : Int) := by omega
  have HF : Hid (F ≤ 9223372036854775807) := Lib.hid (by omega)
  have bF : (F : Int) ≤ 9223372036854775807 := by omega
  obtain ⟨n, hn⟩ : ∃ n, min len0 40 = n := ⟨_, rfl⟩
  have en : min (len0 : Int) 40 = (n : Int) := by omega
  have en2 : (if (40 : Int) < (len0 : Int) then (40 : Int) else (len0 : Int)) = (n : Int) := by split <;> omega
  have HNL : Hid (n ≤ len0 ∧ n ≤ 40) := Lib.hid (by omega)
  have bn : (n : Int) ≤ 40 := by omega
  obtain ⟨V, hV⟩ : ∃ V, V = w.heap.size := ⟨_, rfl⟩
  obtain ⟨wv, hwv⟩ : ∃ wv, wv = w.alloc (.cells #[.int .u64 0, .int .u64 0] 24 : Obj) := ⟨_, rfl⟩
  obtain ⟨ww, hww⟩ : ∃ ww, ww = wv.alloc (.cells #[.int .u64 0, .int .u64 0] 24 : Obj) := ⟨_, rfl⟩
  obtain ⟨U, hU⟩ : ∃ U, V + 1 = U := ⟨_, rfl⟩
  have hU2 : U = wv.heap.size := by rw [← hU, hV, hwv]; simp
  have hs0 : St w V ⟨0, 0⟩ wv := by rw [hwv, hV]; exact St.new w w (Below.refl _ _) 0 0
  have HSV : Hid (St w V ⟨0, 0⟩ ww) := Lib.hid (by rw [hww]; exact hs0.below (below_alloc _ _))
  have HSU : Hid (St w U ⟨0, 0⟩ ww) := Lib.hid (by rw [hww, hU2]; exact St.new w wv hs0.low 0 0)
  have HNE : Hid (V ≠ U) := Lib.hid (by omega)
  clear w1 y0 y1 hF hn hU2 hs0
  go_enter Try.func6, Try.ntmps6
  go_upto_region 2 with fail
  rw [← hV, hU, ← hwv, ← hww]
  clear hV hU hwv hww
  go_wp2_with fail
  go_loopg [8] n (fun gk j wr => ∃ (i : Nat) (L M : List Nat) (v u : Wn), i + gk = n ∧ j = .int .i64 (i : Nat) ∧ Hid (Inv L v ∧ Inv M u ∧ Came (num F ks) i L ∧ Came (fun j => num F ks (n - 1 - j)) i M) ∧ Hid (St w V v wr) ∧ Hid (St w U u wr))
  case atStart => exact ⟨0, [], [], ⟨0, 0⟩, ⟨0, 0⟩, by omega, rfl, Lib.hid ⟨Inv.nil, Inv.nil, fun x => by simp, fun x => by simp⟩, HSV, HSU⟩
  case round =>
    clear HSV HSU
    obtain ⟨i, L, M, v, u, hig, rfl, HI, HSV, HSU⟩ := hrel
    obtain ⟨N, B⟩ := v
    obtain ⟨N2, B2⟩ := u
    have hokv := HI.out.1.ok
    have hoku := HI.out.2.1.ok
    have ov1 := hokv.next
    have ov2 := hokv.bits
    have ou1 := hoku.next
    have ou2 := hoku.bits
    simp only at ov1 ov2 ou1 ou2
    unfold topN at ov1 ou1
    have HOV : Hid (N ≤ 18446744073709551615 ∧ B ≤ 18446744073709551615) := Lib.hid ⟨ov1, by omega⟩
    have HOU : Hid (N2 ≤ 18446744073709551615 ∧ B2 ≤ 18446744073709551615) := Lib.hid ⟨ou1, by omega⟩
    clear ov1 ov2 ou1 ou2 hokv hoku
    have HIG := Lib.hid hig
    by_cases hlt : i < n
    · have l1 : (i : Int) < (n : Int) := by omega
      have HIN := Lib.hid hlt
      obtain ⟨k, hk⟩ : ∃ k, n - 1 - i = k := ⟨_, rfl⟩
      have HK := Lib.hid hk
      obtain ⟨n1, hn1⟩ : ∃ n1, n - 1 = n1 := ⟨_, rfl⟩
      have k1 : (n : Int) - 1 = (n1 : Int) := by omega
      have k2 : (n1 : Int) - (i : Int) = (k : Int) := by omega
      have k3 : (k : Int) < (len0 : Int) := by have := HNL.out; omega
      have k4 : (i : Int) < (len0 : Int) := by have := HNL.out; omega
      have k5 : (n1 : Int) ≤ 40 := by have := HNL.out; omega
      have k6 : (k : Int) ≤ 40 := by omega
      have w3 : IntKind.i64.wrap (n1 : Int) = (n1 : Int) := by simp [IntKind.wrap, IntKind.signed, IntKind.bits]; omega
      have w4 : IntKind.i64.wrap (k : Int) = (k : Int) := by simp [IntKind.wrap, IntKind.signed, IntKind.bits]; omega
      obtain ⟨q1, q2, bk, off, q3⟩ := HR.out
      obtain ⟨hqa, hc0⟩ := q3 i (by rw [HLN.out]; have := HNL.out; omega)
      subst hqa
      have HBL : Hid (bk < w.heap.size) := Lib.hid (block_lt_of_cell hc0)
      clear q1 q2 q3 hc0
      obtain ⟨q1, q2, bk9, off9, q3⟩ := HR.out
      obtain ⟨hqa, hc9⟩ := q3 i (by rw [HLN.out]; have := HNL.out; have := HIN.out; omega)
      injection hqa with hqa
      injection hqa with e1 e2 _
      subst e1 e2
      have hzw := Go.bounds_u8 (HW.out _ (getD_mem (ks := ks) (k := i) (by rw [HLN.out]; have := HNL.out; have := HIN.out; omega)))
      obtain ⟨z0, z1⟩ := hzw
      obtain ⟨Zi, hZ⟩ := Int.eq_ofNat_of_zero_le z0
      have HGi := Lib.hid hZ
      rw [hZ] at hc9 z1
      have HCi := Lib.hid hc9
      have BZi : (Zi : Int) ≤ 255 := z1
      clear z0 z1 hZ q1 q2 q3 hc9
      obtain ⟨Mi, hMi⟩ : ∃ M, Zi % 64 = M := ⟨_, rfl⟩
      obtain ⟨Pi, hPi⟩ : ∃ P, F + Mi = P := ⟨_, rfl⟩
      have HNi : Hid (num F ks i = Pi) := Lib.hid (by unfold num; rw [HGi.out, ← hPi, ← hMi]; simp)
      have m1i : (Zi : Int) % 64 = (Mi : Int) := by rw [← hMi]; simp
      have m2i : (Zi : Int).tmod 64 = (Mi : Int) := by rw [Int.tmod_eq_emod_of_nonneg (by omega)]; exact m1i
      have bMi : (Mi : Int) ≤ 63 := by omega
      have w1i : IntKind.u64.wrap (Mi : Int) = (Mi : Int) := wrap_u64 (by omega) (by omega)
      have s1i : (F : Int) + (Mi : Int) = (Pi : Int) := by omega
      have bPi : (Pi : Int) ≤ 9223372036854775870 := by have := HF.out; omega
      have w2i : IntKind.u64.wrap (Pi : Int) = (Pi : Int) := wrap_u64 (by omega) (by omega)
      have HPBi : Hid (Pi ≤ 18446744073709551615 ∧ Pi < topN) := Lib.hid ⟨by omega, by unfold topN; omega⟩
      clear hMi hPi
      obtain ⟨q1, q2, bk9, off9, q3⟩ := HR.out
      obtain ⟨hqa, hc9⟩ := q3 k (by rw [HLN.out]; have := HNL.out; have := HIN.out; have := HK.out; omega)
      injection hqa with hqa
      injection hqa with e1 e2 _
      subst e1 e2
      have hzw := Go.bounds_u8 (HW.out _ (getD_mem (ks := ks) (k := k) (by rw [HLN.out]; have := HNL.out; have := HIN.out; have := HK.out; omega)))
      obtain ⟨z0, z1⟩ := hzw
      obtain ⟨Zk, hZ⟩ := Int.eq_ofNat_of_zero_le z0
      have HGk := Lib.hid hZ
      rw [hZ] at hc9 z1
      have HCk := Lib.hid hc9
      have BZk : (Zk : Int) ≤ 255 := z1
      clear z0 z1 hZ q1 q2 q3 hc9
      obtain ⟨Mk, hMk⟩ : ∃ M, Zk % 64 = M := ⟨_, rfl⟩
      obtain ⟨Pk, hPk⟩ : ∃ P, F + Mk = P := ⟨_, rfl⟩
      have HNk : Hid (num F ks k = Pk) := Lib.hid (by unfold num; rw [HGk.out, ← hPk, ← hMk]; simp)
      have m1k : (Zk : Int) % 64 = (Mk : Int) := by rw [← hMk]; simp
      have m2k : (Zk : Int).tmod 64 = (Mk : Int) := by rw [Int.tmod_eq_emod_of_nonneg (by omega)]; exact m1k
      have bMk : (Mk : Int) ≤ 63 := by omega
      have w1k : IntKind.u64.wrap (Mk : Int) = (Mk : Int) := wrap_u64 (by omega) (by omega)
      have s1k : (F : Int) + (Mk : Int) = (Pk : Int) := by omega
      have bPk : (Pk : Int) ≤ 9223372036854775870 := by have := HF.out; omega
      have w2k : IntKind.u64.wrap (Pk : Int) = (Pk : Int) := wrap_u64 (by omega) (by omega)
      have HPBk : Hid (Pk ≤ 18446744073709551615 ∧ Pk < topN) := Lib.hid ⟨by omega, by unfold topN; omega⟩
      clear hMk hPk
      obtain ⟨L1, v1, hI1, hm1, ht1⟩ := HI.out.1.step HPBi.out.2 (fun x hx => by
        obtain ⟨j, _, e⟩ := (HI.out.2.2.1 x).1 hx
        have h9 := num_near F ks j
        have h8 := num_near F ks i
        rw [HNi.out] at h8
        omega)
      obtain ⟨M1, u1, hI2, hm2, ht2⟩ := HI.out.2.1.step HPBk.out.2 (fun x hx => by
        obtain ⟨j, _, e⟩ := (HI.out.2.2.2 x).1 hx
        replace e : x = num F ks (n - 1 - j) := e
        have h9 := num_near F ks (n - 1 - j)
        have h8 := num_near F ks k
        rw [HNk.out] at h8
        omega)
      have HI2 : Hid (Inv L1 v1 ∧ Inv M1 u1 ∧ Came (num F ks) (i + 1) L1 ∧ Came (fun j => num F ks (n - 1 - j)) (i + 1) M1) := Lib.hid ⟨hI1, hI2, HI.out.2.2.1.step (by rw [HNi.out]; exact hm1), HI.out.2.2.2.step (by rw [HK.out, HNk.out]; exact hm2)⟩
      obtain ⟨a, b, er, hT1⟩ : ∃ a b er, takeW ⟨N, B⟩ Pi = (⟨a, b⟩, er) := ⟨_, _, _, rfl⟩
      obtain ⟨c, d, fr, hT2⟩ : ∃ a b er, takeW ⟨N2, B2⟩ Pk = (⟨a, b⟩, er) := ⟨_, _, _, rfl⟩
      have HT1 := Lib.hid hT1
      have HT2 := Lib.hid hT2
      have HD1 : Hid ((er = 0 ∧ v1 = ⟨a, b⟩) ∨ (er = 12 ∧ v1 = ⟨N, B⟩)) := Lib.hid (by
        rw [hT1] at ht1
        rcases ht1 with q | ⟨q, q2⟩
        · injection q with q3 q4; exact .inl ⟨q4, q3.symm⟩
        · injection q with q3 q4; exact .inr ⟨q4, q2⟩)
      have HD2 : Hid ((fr = 0 ∧ u1 = ⟨c, d⟩) ∨ (fr = 12 ∧ u1 = ⟨N2, B2⟩)) := Lib.hid (by
        rw [hT2] at ht2
        rcases ht2 with q | ⟨q, q2⟩
        · injection q with q3 q4; exact .inl ⟨q4, q3.symm⟩
        · injection q with q3 q4; exact .inr ⟨q4, q2⟩)
      clear hig hlt hk hn1 HI hI1 hm1 ht1 hI2 hm2 ht2 hT1 hT2
      go_upto_region 7 with fail
      go_cut [9, 10] from 20 to 73 (fun x9 x10 wx => ∃ X9 : Nat, x9 = .pointer (some ⟨X9, 0, none⟩) ∧ x10 = .int .i64 (er : Int) ∧ Hid (V ≠ X9 ∧ U ≠ X9) ∧ Hid (St w V ⟨N, B⟩ wx) ∧ Hid (St w X9 ⟨a, b⟩ wx) ∧ Hid (St w U ⟨N2, B2⟩ wx))
      case first =>
        have HSA : Hid (St w V ⟨N, B⟩ (wr.alloc (.cells #[.int .u64 0, .int .u64 0] 24 : Obj))) := Lib.hid (HSV.out.below (below_alloc _ _))
        have HXA : Hid ((wr.alloc (.cells #[.int .u64 0, .int .u64 0] 24 : Obj)).heap[wr.heap.size]? = some (.cells #[.int .u64 0, .int .u64 0] 24 (0, 0))) := Lib.hid (heap_alloc_new _ _)
        have HXN : Hid (w.heap.size ≤ wr.heap.size ∧ V ≠ wr.heap.size) := Lib.hid ⟨HSV.out.low.size, Nat.ne_of_lt (blk_lt HSV.out.blk)⟩
        have HCA : Hid (∀ W, Calls Try.prog 9 #[.agg #[.int .u64 (N : Int), .int .u64 (B : Int)], .int .u64 (Pi : Int)] W fun x w' => x = .returned (.tuple #[.agg #[.int .u64 (a : Int), .int .u64 (b : Int)], .int .i64 (er : Int)]) ∧ Below W.heap.size W w') := Lib.hid (fun W => takes_p N B Pi HOV.out.1 HOV.out.2 HPBi.out.1 a b er HT1.out W)
        obtain ⟨r0, r1, q0, q1⟩ := cells2 HSV.out.blk
        obtain ⟨ra0, ra1, qa0, qa1⟩ := cells2 HSA.out.blk
        simp only at r0 r1 ra0 ra1
        have hcr : wr.cell? ⟨bk, off + i, none⟩ = some (.int .u8 (Zi : Int)) := (HSV.out.low.cell HBL.out).trans HCi.out
        have hca : (wr.alloc (.cells #[.int .u64 0, .int .u64 0] 24 : Obj)).cell? ⟨bk, off + i, none⟩ = some (.int .u8 (Zi : Int)) := (HSA.out.low.cell HBL.out).trans HCi.out
        go_region_with (go_at_call 9; refine (HCA.out _).mono ?_; rintro e w2 ⟨rfl, hb⟩; replace hb := undrew hb; (first | (have HS2 := Lib.hid (HSV.out.below hb); have HB2 := Lib.hid hb) | (have HS2 := Lib.hid (HSA.out.below hb); have HB2 := Lib.hid hb; have HX2 := Lib.hid ((hb.block _ (blk_lt HXA.out)).trans HXA.out); obtain ⟨xa, xb, xc, xd⟩ := cells2 HX2.out)); clear hb)
        all_goals
          first
          | (have HX3 := Lib.hid (fill2 wr.heap.size (.int .u64 (a : Int)) (.int .u64 (b : Int)) HX2.out)
             have HS3 := Lib.hid (HS2.out.other HXN.out.1 HXN.out.2 (.int .u64 (a : Int)) (.int .u64 (b : Int)))
             go_wp2_with fail
             go_meet
             exact ⟨wr.heap.size, rfl, rfl, Lib.hid ⟨Nat.ne_of_lt (blk_lt HSV.out.blk), Nat.ne_of_lt (blk_lt HSU.out.blk)⟩, HS3, Lib.hid ⟨HXN.out.1, HS3.out.low, HX3.out⟩, Lib.hid (((HSU.out.below (below_alloc _ _)).below HB2.out).other HXN.out.1 (Nat.ne_of_lt (blk_lt HSU.out.blk)) _ _)⟩)
          | (have HS3 := Lib.hid (HS2.out.below (below_alloc w2 (.cells #[.int .u64 (a : Int), .int .u64 (b : Int)] 24 : Obj)))
             have HX3 := Lib.hid (St.new w w2 HS2.out.low a b)
             go_wp2_with fail
             go_meet
             exact ⟨w2.heap.size, rfl, rfl, Lib.hid ⟨Nat.ne_of_lt (Nat.lt_of_lt_of_le (blk_lt HSV.out.blk) HB2.out.size), Nat.ne_of_lt (Nat.lt_of_lt_of_le (blk_lt HSU.out.blk) HB2.out.size)⟩, HS3, HX3, Lib.hid ((HSU.out.below HB2.out).below (below_alloc _ _))⟩)
      case rest =>
        obtain ⟨X, rfl, rfl, HNX, HSV, HSX, HSU⟩ := hcut
        obtain ⟨wd, hwd⟩ : ∃ wd, wd = wc := ⟨_, rfl⟩
        subst hwd
        go_upto_region 8 with fail
        go_cut [11, 12] from 20 to 73 (fun x11 x12 wx => ∃ X9 : Nat, x11 = .pointer (some ⟨X9, 0, none⟩) ∧ x12 = .int .i64 (fr : Int) ∧ Hid (U ≠ X9 ∧ V ≠ X9 ∧ X ≠ X9) ∧ Hid (St w U ⟨N2, B2⟩ wx) ∧ Hid (St w X9 ⟨c, d⟩ wx) ∧ Hid (St w V ⟨N, B⟩ wx) ∧ Hid (St w X ⟨a, b⟩ wx))
        case first =>
          have HSA : Hid (St w U ⟨N2, B2⟩ (wd.alloc (.cells #[.int .u64 0, .int .u64 0] 24 : Obj))) := Lib.hid (HSU.out.below (below_alloc _ _))
          have HXA : Hid ((wd.alloc (.cells #[.int .u64 0, .int .u64 0] 24 : Obj)).heap[wd.heap.size]? = some (.cells #[.int .u64 0, .int .u64 0] 24 (0, 0))) := Lib.hid (heap_alloc_new _ _)
          have HXN : Hid (w.heap.size ≤ wd.heap.size ∧ U ≠ wd.heap.size) := Lib.hid ⟨HSU.out.low.size, Nat.ne_of_lt (blk_lt HSU.out.blk)⟩
          have HCA : Hid (∀ W, Calls Try.prog 9 #[.agg #[.int .u64 (N2 : Int), .int .u64 (B2 : Int)], .int .u64 (Pk : Int)] W fun x w' => x = .returned (.tuple #[.agg #[.int .u64 (c : Int), .int .u64 (d : Int)], .int .i64 (fr : Int)]) ∧ Below W.heap.size W w') := Lib.hid (fun W => takes_p N2 B2 Pk HOU.out.1 HOU.out.2 HPBk.out.1 c d fr HT2.out W)
          obtain ⟨r0, r1, q0, q1⟩ := cells2 HSU.out.blk
          obtain ⟨ra0, ra1, qa0, qa1⟩ := cells2 HSA.out.blk
          simp only at r0 r1 ra0 ra1
          have hcr : wd.cell? ⟨bk, off + k, none⟩ = some (.int .u8 (Zk : Int)) := (HSU.out.low.cell HBL.out).trans HCk.out
          have hca : (wd.alloc (.cells #[.int .u64 0, .int .u64 0] 24 : Obj)).cell? ⟨bk, off + k, none⟩ = some (.int .u8 (Zk : Int)) := (HSA.out.low.cell HBL.out).trans HCk.out
          go_region_with (go_at_call 9; refine (HCA.out _).mono ?_; rintro e w2 ⟨rfl, hb⟩; replace hb := undrew hb; (first | (have HS2 := Lib.hid (HSU.out.below hb); have HB2 := Lib.hid hb) | (have HS2 := Lib.hid (HSA.out.below hb); have HB2 := Lib.hid hb; have HX2 := Lib.hid ((hb.block _ (blk_lt HXA.out)).trans HXA.out); obtain ⟨xa, xb, xc, xd⟩ := cells2 HX2.out)); clear hb)
          all_goals
            first
            | (have HX3 := Lib.hid (fill2 wd.heap.size (.int .u64 (c : Int)) (.int .u64 (d : Int)) HX2.out)
               have HS3 := Lib.hid (HS2.out.other HXN.out.1 HXN.out.2 (.int .u64 (c : Int)) (.int .u64 (d : Int)))
               go_wp2_with fail
               go_meet
               exact ⟨wd.heap.size, rfl, rfl, Lib.hid ⟨Nat.ne_of_lt (blk_lt HSU.out.blk), Nat.ne_of_lt (blk_lt HSV.out.blk), Nat.ne_of_lt (blk_lt HSX.out.blk)⟩, HS3, Lib.hid ⟨HXN.out.1, HS3.out.low, HX3.out⟩, Lib.hid (((HSV.out.below (below_alloc _ _)).below HB2.out).other HXN.out.1 (Nat.ne_of_lt (blk_lt HSV.out.blk)) _ _), Lib.hid (((HSX.out.below (below_alloc _ _)).below HB2.out).other HXN.out.1 (Nat.ne_of_lt (blk_lt HSX.out.blk)) _ _)⟩)
            | (have HS3 := Lib.hid (HS2.out.below (below_alloc w2 (.cells #[.int .u64 (c : Int), .int .u64 (d : Int)] 24 : Obj)))
               have HX3 := Lib.hid (St.new w w2 HS2.out.low c d)
               go_wp2_with fail
               go_meet
               exact ⟨w2.heap.size, rfl, rfl, Lib.hid ⟨Nat.ne_of_lt (Nat.lt_of_lt_of_le (blk_lt HSU.out.blk) HB2.out.size), Nat.ne_of_lt (Nat.lt_of_lt_of_le (blk_lt HSV.out.blk) HB2.out.size), Nat.ne_of_lt (Nat.lt_of_lt_of_le (blk_lt HSX.out.blk) HB2.out.size)⟩, HS3, HX3, Lib.hid ((HSV.out.below HB2.out).below (below_alloc _ _)), Lib.hid ((HSX.out.below HB2.out).below (below_alloc _ _))⟩)
        case rest =>
          obtain ⟨Y, rfl, rfl, HNY, HSU, HSY, HSV, HSX⟩ := hcut
          rcases HD1.out with ⟨e1, e2⟩ | ⟨e1, e2⟩
          · subst e1 e2
            rcases HD2.out with ⟨e1, e2⟩ | ⟨e1, e2⟩
            · subst e1 e2
              obtain ⟨v0, v1, v2, v3⟩ := cells2 HSV.out.blk
              obtain ⟨g0, g1, g2, g3⟩ := cells2 HSU.out.blk
              obtain ⟨x0, x1, _, _⟩ := cells2 HSX.out.blk
              obtain ⟨y0, y1, _, _⟩ := cells2 HSY.out.blk
              simp only at v0 v1 g0 g1 x0 x1 y0 y1
              have HSV2 := Lib.hid (HSV.out.put a b)
              have HSU2 := Lib.hid (HSU.out.other HSV.out.1 (fun e => HNE.out e.symm) (.int .u64 (a : Int)) (.int .u64 (b : Int)))
              have HSY2 := Lib.hid (HSY.out.other HSV.out.1 (fun e => HNY.out.2.1 e.symm) (.int .u64 (a : Int)) (.int .u64 (b : Int)))
              obtain ⟨k0, k1, k2, k3⟩ := cells2 HSU2.out.blk
              obtain ⟨j0, j1, _, _⟩ := cells2 HSY2.out.blk
              simp only at k0 k1 j0 j1
              have HSU3 := Lib.hid (HSU2.out.put c d)
              have HSV3 := Lib.hid (HSV2.out.other HSU.out.1 HNE.out (.int .u64 (c : Int)) (.int .u64 (d : Int)))
              go_wp2_with fail
              go_roundg (n - (i + 1))
              case rel => exact ⟨i + 1, L1, M1, ⟨a, b⟩, ⟨c, d⟩, by have := HIN.out; omega, by go_num, HI2, HSV3, HSU3⟩
              case measure => have := HIG.out; have := HIN.out; omega
            · subst e1 e2
              obtain ⟨v0, v1, v2, v3⟩ := cells2 HSV.out.blk
              obtain ⟨g0, g1, g2, g3⟩ := cells2 HSU.out.blk
              obtain ⟨x0, x1, _, _⟩ := cells2 HSX.out.blk
              obtain ⟨y0, y1, _, _⟩ := cells2 HSY.out.blk
              simp only at v0 v1 g0 g1 x0 x1 y0 y1
              have HSV2 := Lib.hid (HSV.out.put a b)
              have HSU2 := Lib.hid (HSU.out.other HSV.out.1 (fun e => HNE.out e.symm) (.int .u64 (a : Int)) (.int .u64 (b : Int)))
              have HSY2 := Lib.hid (HSY.out.other HSV.out.1 (fun e => HNY.out.2.1 e.symm) (.int .u64 (a : Int)) (.int .u64 (b : Int)))
              obtain ⟨k0, k1, k2, k3⟩ := cells2 HSU2.out.blk
              obtain ⟨j0, j1, _, _⟩ := cells2 HSY2.out.blk
              simp only at k0 k1 j0 j1
              go_wp2_with fail
              go_roundg (n - (i + 1))
              case rel => exact ⟨i + 1, L1, M1, ⟨a, b⟩, ⟨N2, B2⟩, by have := HIN.out; omega, by go_num, HI2, HSV2, HSU2⟩
              case measure => have := HIG.out; have := HIN.out; omega
          · subst e1 e2
            rcases HD2.out with ⟨e1, e2⟩ | ⟨e1, e2⟩
            · subst e1 e2
              obtain ⟨v0, v1, v2, v3⟩ := cells2 HSV.out.blk
              obtain ⟨g0, g1, g2, g3⟩ := cells2 HSU.out.blk
              obtain ⟨x0, x1, _, _⟩ := cells2 HSX.out.blk
              obtain ⟨y0, y1, _, _⟩ := cells2 HSY.out.blk
              simp only at v0 v1 g0 g1 x0 x1 y0 y1
              have HSU3 := Lib.hid (HSU.out.put c d)
              have HSV3 := Lib.hid (HSV.out.other HSU.out.1 HNE.out (.int .u64 (c : Int)) (.int .u64 (d : Int)))
              go_wp2_with fail
              go_roundg (n - (i + 1))
              case rel => exact ⟨i + 1, L1, M1, ⟨N, B⟩, ⟨c, d⟩, by have := HIN.out; omega, by go_num, HI2, HSV3, HSU3⟩
              case measure => have := HIG.out; have := HIN.out; omega
            · subst e1 e2
              obtain ⟨v0, v1, v2, v3⟩ := cells2 HSV.out.blk
              obtain ⟨g0, g1, g2, g3⟩ := cells2 HSU.out.blk
              obtain ⟨x0, x1, _, _⟩ := cells2 HSX.out.blk
              obtain ⟨y0, y1, _, _⟩ := cells2 HSY.out.blk
              simp only at v0 v1 g0 g1 x0 x1 y0 y1
              go_wp2_with fail
              go_roundg (n - (i + 1))
              case rel => exact ⟨i + 1, L1, M1, ⟨N, B⟩, ⟨N2, B2⟩, by have := HIN.out; omega, by go_num, HI2, HSV, HSU⟩
              case measure => have := HIG.out; have := HIN.out; omega
    · obtain rfl : i = n := by omega
      have hsame : (⟨N, B⟩ : Wn) = ⟨N2, B2⟩ := HI.out.1.same HI.out.2.1 (fun x => by
        rw [HI.out.2.2.1 x, HI.out.2.2.2 x]
        constructor
        · rintro ⟨j, q1, q2⟩
          refine ⟨i - 1 - j, by omega, ?_⟩
          show x = num F ks (i - 1 - (i - 1 - j))
          rw [show i - 1 - (i - 1 - j) = j by omega]
          exact q2
        · rintro ⟨j, q1, q2⟩
          exact ⟨i - 1 - j, by omega, q2⟩)
      obtain ⟨e1, e2⟩ := wins_two hsame
      subst e1 e2
      have nl : decide ((i : Int) < (i : Int)) = false := decide_eq_false (by omega)
      have t1 := fun u => wins_eq (rfl : N = N) (rfl : B = B) u
      have hold : ∀ u, Below wr.drew.heap.size wr.drew u → Hid (St w V ⟨N, B⟩ u) ∧ Hid (St w U ⟨N, B⟩ u) := fun u h => ⟨Lib.hid ((HSV.out.below ((Below.refl _ _).drew)).below h), Lib.hid ((HSU.out.below ((Below.refl _ _).drew)).below h)⟩
      clear hlt hsame
      by_cases hz : i = 0
      · have z1 : ((i : Int) == 0) = true := by rw [hz]; rfl
        clear hz HIG hig
        go_wp2_with fail
        replace HSV := Lib.hid (HSV.out.below ((Below.refl _ _).drew))
        replace HSU := Lib.hid (HSU.out.below ((Below.refl _ _).drew))
        refine wp_region_held_drew (S := (fun w' => w'.cell? ⟨V, 0, none⟩ = some (.int .u64 (N : Int)) ∧ w'.cell? ⟨V, 1, none⟩ = some (.int .u64 (B : Int)) ∧ w'.cell? ⟨U, 0, none⟩ = some (.int .u64 (N : Int)) ∧ w'.cell? ⟨U, 1, none⟩ = some (.int .u64 (B : Int)))) (by kernel_rfl) ⟨(cells2 HSV.out.blk).1, (cells2 HSV.out.blk).2.1, (cells2 HSU.out.blk).1, (cells2 HSU.out.blk).2.1⟩ ?_
        intro hS
        refine wpAnyH_take (i := 0) (v := (.agg #[.int .u64 (N : Int), .int .u64 (B : Int)])) rfl (by kernel_rfl) (by kernel_rfl) (by kernel_rfl) (fun _ _ _ h => h) (Or.inl ⟨by kernel_rfl, fun W ⟨s0, s1, s2, s3⟩ => by go_simp⟩) hS ?_
        refine wpAnyH_take (i := 1) (v := (.agg #[.int .u64 (N : Int), .int .u64 (B : Int)])) rfl (by kernel_rfl) (by kernel_rfl) (by kernel_rfl) (fun _ _ _ h => h) (Or.inl ⟨by kernel_rfl, fun W ⟨s0, s1, s2, s3⟩ => by go_simp⟩) hS ?_
        refine wpAnyH_take (i := 2) (v := (.bool true)) rfl (by kernel_rfl) (by kernel_rfl) (by kernel_rfl) (fun _ _ _ h => h) (Or.inl ⟨by kernel_rfl, fun W ⟨s0, s1, s2, s3⟩ => by go_simp⟩) hS ?_
        refine wpAnyH_take (i := 3) (v := (.bool true)) rfl (by kernel_rfl) (by kernel_rfl) (by kernel_rfl) (fun _ _ _ h => h) (Or.inl ⟨by kernel_rfl, fun W ⟨s0, s1, s2, s3⟩ => by go_simp⟩) hS ?_
        refine wpAnyH_take (i := 4) (v := (.int .i64 (i : Int))) rfl (by kernel_rfl) (by kernel_rfl) (by kernel_rfl) (fun _ _ _ h => h) (Or.inl ⟨by kernel_rfl, fun W ⟨s0, s1, s2, s3⟩ => by go_simp⟩) hS ?_
        refine wpAnyH_take (i := 5) (v := (.bool true)) rfl (by kernel_rfl) (by kernel_rfl) (by kernel_rfl) (fun _ _ _ h => h) (Or.inl ⟨by kernel_rfl, fun W ⟨s0, s1, s2, s3⟩ => by go_simp⟩) hS ?_
        refine wpAnyH_take (i := 6) (v := (.bool true)) rfl (by kernel_rfl) (by kernel_rfl) (by kernel_rfl) (fun _ _ _ h => h) (Or.inl ⟨by kernel_rfl, fun W ⟨s0, s1, s2, s3⟩ => by go_simp⟩) hS ?_
        refine wpAnyH_take (i := 7) (v := undef) rfl (by kernel_rfl) (by kernel_rfl) (by kernel_rfl) (fun _ _ _ h => h) (Or.inr ⟨by kernel_rfl, rfl⟩) hS ?_
        refine wpAnyH_take (i := 8) (v := undef) rfl (by kernel_rfl) (by kernel_rfl) (by kernel_rfl) (fun _ _ _ h => h) (Or.inr ⟨by kernel_rfl, rfl⟩) hS ?_
        refine wpAnyH_take (i := 9) (v := undef) rfl (by kernel_rfl) (by kernel_rfl) (by kernel_rfl) (fun _ _ _ h => h) (Or.inr ⟨by kernel_rfl, rfl⟩) hS ?_
        refine wpAnyH_take (i := 10) (v := undef) rfl (by kernel_rfl) (by kernel_rfl) (by kernel_rfl) (fun _ _ _ h => h) (Or.inr ⟨by kernel_rfl, rfl⟩) hS ?_
        refine wpAnyH_take (i := 11) (v := undef) rfl (by kernel_rfl) (by kernel_rfl) (by kernel_rfl) (fun _ _ _ h => h) (Or.inr ⟨by kernel_rfl, rfl⟩) hS ?_
        refine wpAnyH_take (i := 12) (v := undef) rfl (by kernel_rfl) (by kernel_rfl) (by kernel_rfl) (fun _ _ _ h => h) (Or.inr ⟨by kernel_rfl, rfl⟩) hS ?_
        refine wpAnyH_take (i := 13) (v := undef) rfl (by kernel_rfl) (by kernel_rfl) (by kernel_rfl) (fun _ _ _ h => h) (Or.inr ⟨by kernel_rfl, rfl⟩) hS ?_
        refine wpAnyH_take (i := 14) (v := undef) rfl (by kernel_rfl) (by kernel_rfl) (by kernel_rfl) (fun _ _ _ h => h) (Or.inr ⟨by kernel_rfl, rfl⟩) hS ?_
        refine wpAnyH_take (i := 15) (v := undef) rfl (by kernel_rfl) (by kernel_rfl) (by kernel_rfl) (fun _ _ _ h => h) (Or.inr ⟨by kernel_rfl, rfl⟩) hS ?_
        refine wpAnyH_take (i := 16) (v := undef) rfl (by kernel_rfl) (by kernel_rfl) (by kernel_rfl) (fun _ _ _ h => h) (Or.inr ⟨by kernel_rfl, rfl⟩) hS ?_
        refine wpAnyH_take (i := 17) (v := undef) rfl (by kernel_rfl) (by kernel_rfl) (by kernel_rfl) (fun _ _ _ h => h) (Or.inr ⟨by kernel_rfl, rfl⟩) hS ?_
        refine wpAnyH_take (i := 18) (v := undef) rfl (by kernel_rfl) (by kernel_rfl) (by kernel_rfl) (fun _ _ _ h => h) (Or.inr ⟨by kernel_rfl, rfl⟩) hS ?_
        refine wpAnyH_take (i := 19) (v := undef) rfl (by kernel_rfl) (by kernel_rfl) (by kernel_rfl) (fun _ _ _ h => h) (Or.inr ⟨by kernel_rfl, rfl⟩) hS ?_
        refine wpAnyH_take (i := 20) (v := undef) rfl (by kernel_rfl) (by kernel_rfl) (by kernel_rfl) (fun _ _ _ h => h) (Or.inr ⟨by kernel_rfl, rfl⟩) hS ?_
        refine wpAnyH_take (i := 21) (v := undef) rfl (by kernel_rfl) (by kernel_rfl) (by kernel_rfl) (fun _ _ _ h => h) (Or.inr ⟨by kernel_rfl, rfl⟩) hS ?_
        refine wpAnyH_take (i := 22) (v := (.bool true)) rfl (by kernel_rfl) (by kernel_rfl) (by kernel_rfl) (fun _ _ _ h => h) (Or.inl ⟨by kernel_rfl, fun W ⟨s0, s1, s2, s3⟩ => by go_simp⟩) hS ?_
        refine wpAnyH_take (i := 23) (v := (.bool true)) rfl (by kernel_rfl) (by kernel_rfl) (by kernel_rfl) (fun _ _ _ h => h) (Or.inl ⟨by kernel_rfl, fun W ⟨s0, s1, s2, s3⟩ => by go_simp⟩) hS ?_
        refine wpAnyH_take (i := 24) (v := (.bool true)) rfl (by kernel_rfl) (by kernel_rfl) (by kernel_rfl) (fun _ _ _ h => h) (Or.inl ⟨by kernel_rfl, fun W ⟨s0, s1, s2, s3⟩ => by go_simp⟩) hS ?_
        refine wpAnyH_ready (rs := [25]) (by kernel_rfl) (by simp) ?_
        refine AllReadyH.cons rfl (fun K9 hK9 => ?_) AllReadyH.nil
        go_simp
        refine (fixed_any _).mono ?_
        rintro e w5 ⟨rfl, hb⟩
        replace HSV := Lib.hid (HSV.out.below hb)
        replace HSU := Lib.hid (HSU.out.below hb)
        clear hb
        refine hK9.out _ _ ⟨(cells2 HSV.out.blk).1, (cells2 HSV.out.blk).2.1, (cells2 HSU.out.blk).1, (cells2 HSU.out.blk).2.1⟩ (fun hS3 => ?_)
        refine wpAnyH_take (i := 26) (v := (.bool true)) rfl (by kernel_rfl) (by kernel_rfl) (by kernel_rfl) (fun _ _ _ h => h) (Or.inl ⟨by kernel_rfl, fun W ⟨s0, s1, s2, s3⟩ => by go_simp⟩) hS3 ?_
        refine wpAnyH_take (i := 27) (v := (.bool true)) rfl (by kernel_rfl) (by kernel_rfl) (by kernel_rfl) (fun _ _ _ h => h) (Or.inl ⟨by kernel_rfl, fun W ⟨s0, s1, s2, s3⟩ => by go_simp⟩) hS3 ?_
        refine wpAnyH_done (by kernel_rfl) ?_ _
        go_simp
        go_wp2_with fail
        go_ret
        exact ⟨rfl, HSV.out.low⟩
      · have z1 : ((i : Int) == 0) = false := by simp; omega
        obtain ⟨q1, q2, bk, off, q3⟩ := HR.out
        obtain ⟨hqa, hc0⟩ := q3 0 (by rw [HLN.out]; have := HNL.out; omega)
        subst hqa
        have hzw := Go.bounds_u8 (HW.out _ (getD_mem (ks := ks) (k := 0) (by rw [HLN.out]; have := HNL.out; omega)))
        obtain ⟨z0, z2⟩ := hzw
        obtain ⟨Z, hZ⟩ := Int.eq_ofNat_of_zero_le z0
        rw [hZ] at hc0 z2
        replace hc0 : w.cell? ⟨bk, off, none⟩ = some (.int .u8 (Z : Int)) := hc0
        obtain ⟨M, hM⟩ : ∃ M, Z % 64 = M := ⟨_, rfl⟩
        obtain ⟨P, hP⟩ : ∃ P, F + M = P := ⟨_, rfl⟩
        have hnum : num F ks 0 = P := by unfold num; rw [hZ, ← hP, ← hM]; simp
        have m1 : (Z : Int) % 64 = (M : Int) := by rw [← hM]; simp
        have m2 : (Z : Int).tmod 64 = (M : Int) := by rw [Int.tmod_eq_emod_of_nonneg (by omega)]; exact m1
        have bM : (M : Int) ≤ 63 := by omega
        have bZ : (Z : Int) ≤ 255 := z2
        have w1 : IntKind.u64.wrap (M : Int) = (M : Int) := wrap_u64 (by omega) (by omega)
        have s1 : (F : Int) + (M : Int) = (P : Int) := by omega
        have bP : (P : Int) ≤ 9223372036854775870 := by have := HF.out; omega
        have w2 : IntKind.u64.wrap (P : Int) = (P : Int) := wrap_u64 (by omega) (by omega)
        have hPL : P ∈ L := (HI.out.2.2.1 P).2 ⟨0, by omega, hnum.symm⟩
        have htop := HI.out.1.top (fun e => by rw [e] at hPL; cases hPL)
        obtain ⟨j, _, hj⟩ := (HI.out.2.2.1 _).1 htop.1
        have hnr := num_near F ks j
        have hPn := num_near F ks 0
        rw [hnum] at hPn
        have hFN : F < N := by have := htop.2; simp only at hj this; omega
        have HH : Hid (hasW ⟨N, B⟩ P = true) := Lib.hid ((HI.out.1.has P).2 ⟨hPL, by simp only at hj ⊢; omega⟩)
        have HPB : Hid (P ≤ 18446744073709551615) := Lib.hid (by omega)
        have g1 : decide ((F : Int) < (N : Int)) = true := decide_eq_true (by omega)
        have g2 : decide (F < N) = true := decide_eq_true hFN
        have g3 : (F : Int) < (N : Int) := by omega
        have l0 : (0 : Int) < (len0 : Int) := by have := HNL.out; omega
        have l00 : 0 < len0 := by have := HNL.out; omega
        have bN : (N : Int) ≤ 18446744073709551615 := by have := HOV.out.1; omega
        have HBL : Hid (bk < w.heap.size) := Lib.hid (block_lt_of_cell hc0)
        have HC0 := Lib.hid hc0
        have HCH : Hid (∀ W, Calls Try.prog 14 #[.agg #[.int .u64 (N : Int), .int .u64 (B : Int)], .int .u64 (P : Int)] W fun e w' => e = .returned (.bool true) ∧ Below W.heap.size W w') := Lib.hid (fun W => has_p N B P HOV.out.1 HOV.out.2 HPB.out true HH.out W)
        clear hz HIG hig hM hP hnum hZ z0 z2 q1 q2 q3 hPL htop hj hnr hPn hFN HI hc0
        go_wp2_with fail
        replace HSV := Lib.hid (HSV.out.below ((Below.refl _ _).drew))
        replace HSU := Lib.hid (HSU.out.below ((Below.refl _ _).drew))
        have hS : wr.drew.cell? ⟨V, 0, none⟩ = some (.int .u64 (N : Int)) ∧ wr.drew.cell? ⟨V, 1, none⟩ = some (.int .u64 (B : Int)) ∧ wr.drew.cell? ⟨U, 0, none⟩ = some (.int .u64 (N : Int)) ∧ wr.drew.cell? ⟨U, 1, none⟩ = some (.int .u64 (B : Int)) ∧ wr.drew.cell? ⟨bk, off, none⟩ = some (.int .u8 (Z : Int)) := ⟨(cells2 HSV.out.blk).1, (cells2 HSV.out.blk).2.1, (cells2 HSU.out.blk).1, (cells2 HSU.out.blk).2.1, (HSV.out.low.cell HBL.out).trans HC0.out⟩
        have hS' := hS
        go_region_held3 (fun w' => w'.cell? ⟨V, 0, none⟩ = some (.int .u64 (N : Int)) ∧ w'.cell? ⟨V, 1, none⟩ = some (.int .u64 (B : Int)) ∧ w'.cell? ⟨U, 0, none⟩ = some (.int .u64 (N : Int)) ∧ w'.cell? ⟨U, 1, none⟩ = some (.int .u64 (B : Int)) ∧ w'.cell? ⟨bk, off, none⟩ = some (.int .u8 (Z : Int))) (first | assumption | go_keep) ((first | (go_at_call 14; refine (HCH.out _).mono ?_; rintro e w5 ⟨rfl, hb⟩; replace HSV := Lib.hid (HSV.out.below hb); replace HSU := Lib.hid (HSU.out.below hb); have hS5 : w5.cell? ⟨V, 0, none⟩ = some (.int .u64 (N : Int)) ∧ w5.cell? ⟨V, 1, none⟩ = some (.int .u64 (B : Int)) ∧ w5.cell? ⟨U, 0, none⟩ = some (.int .u64 (N : Int)) ∧ w5.cell? ⟨U, 1, none⟩ = some (.int .u64 (B : Int)) ∧ w5.cell? ⟨bk, off, none⟩ = some (.int .u8 (Z : Int)) := ⟨(cells2 HSV.out.blk).1, (cells2 HSV.out.blk).2.1, (cells2 HSU.out.blk).1, (cells2 HSU.out.blk).2.1, (HSV.out.low.cell HBL.out).trans HC0.out⟩; clear hb) | (go_at_call 16; refine (fixed_any _).mono ?_; rintro e w5 ⟨rfl, hb⟩; replace HSV := Lib.hid (HSV.out.below hb); replace HSU := Lib.hid (HSU.out.below hb); have hS5 : w5.cell? ⟨V, 0, none⟩ = some (.int .u64 (N : Int)) ∧ w5.cell? ⟨V, 1, none⟩ = some (.int .u64 (B : Int)) ∧ w5.cell? ⟨U, 0, none⟩ = some (.int .u64 (N : Int)) ∧ w5.cell? ⟨U, 1, none⟩ = some (.int .u64 (B : Int)) ∧ w5.cell? ⟨bk, off, none⟩ = some (.int .u8 (Z : Int)) := ⟨(cells2 HSV.out.blk).1, (cells2 HSV.out.blk).2.1, (cells2 HSU.out.blk).1, (cells2 HSU.out.blk).2.1, (HSV.out.low.cell HBL.out).trans HC0.out⟩; clear hb)))
        go_wp2_with fail
        go_ret
        exact ⟨rfl, HSV.out.low⟩
set_option maxRecDepth 100000 in
theorem lifted (os : Os) (started : os.Started) (H : Type) (enc : TypeId × Value → H) :
    ReturnsInHanded {} Try.checked os 6 .any (Rows.windowOrderSpec.pre6 enc Try.prog Try.f6 Rows.windowOrderRow.domain false) (Rows.windowOrderSpec.post enc Try.prog Try.f6 false true false false) := by
  refine returnsInHanded_of_change (C := Try.checked) own started (by kernel_rfl) Try.func6
    (ChangeSpec.witness6 (enc := enc) (C := Try.checked) false ⟨#[], #[.slice none 0 0, .int .u64 0], []⟩ 8 (by kernel_rfl) (by kernel_rfl) (by kernel_rfl) (by kernel_rfl)) ?_
  intro W base args ds gs before hval0 hW hcnd _
  have hval : ∀ (j : Nat) t v, Try.f6.params[j]? = some t → args[j]? = some v → Value.okWide Try.prog W .any base t v := hval0
  have hW' := hW
  obtain ⟨p, q, hA0, hV, rfl, hfz, hnd⟩ := hW
  have hA : DataW.TrodAll enc Try.prog W 0 (fun _ => true) true Try.f6.params.toList args.toList ds p := hA0
  rw [Try.params6] at hA hval
  obtain ⟨v0, vs0, d0, ds0, p0, q0, hargs, rfl, rfl, h0, r0⟩ := trodAll_cons hA
  obtain ⟨v1, vs1, d1, ds1, p1, q1, rfl, rfl, rfl, h1, r1⟩ := trodAll_cons r0
  obtain ⟨rfl, rfl, rfl⟩ := trodAll_nil r1
  obtain rfl : args = #[v0, v1] := by cases args; simp_all
  obtain ⟨rfl, rfl⟩ := trodVars_none hV
  obtain ⟨a0, len0, cap0, rfl⟩ := okWide_slice Try.underlying36 (hval 0 36 v0 rfl rfl)
  have k0 := h0
  have lt0 : ∀ x ∈ p0, x.block < W.heap.size := by obtain ⟨m, hm⟩ := k0; exact DataW.trod_lt m _ _ _ hm
  obtain ⟨z0, w0⟩ : ∃ zs, IsRow .u8 W a0 len0 cap0 zs := by
    obtain ⟨fuel, hf⟩ := h0
    rcases open_ints Try.underlying36 Try.underlying5 (by kernel_rfl) hf with ⟨hcs, _⟩ | ⟨x, l, c, zs, hcs, _, hl, hm, hz, _, hcell, hwz⟩
    · simp [Value.cells] at hcs
      obtain ⟨rfl, rfl, rfl⟩ := hcs
      exact ⟨[], .inl ⟨rfl, rfl, rfl, rfl⟩⟩
    · simp [Value.cells] at hcs
      obtain ⟨rfl, rfl, rfl⟩ := hcs
      exact ⟨zs, .inr ⟨_, rfl, hl, hm, by simpa using hz, hcell, hwz⟩⟩
  obtain ⟨a1, rfl, rfl, rfl, w1⟩ := open_int Try.underlying22 (hval 1 22 v1 rfl rfl) h1
  clear hA0 hval0
  refine (walk a0 len0 cap0 z0 a1 W w0 w1).mono fun e W' ⟨he, bel⟩ => ?_
  subst he
  exact ⟨_, rfl, _, _, _, [], _, [], hW', trodAll_mk1 (shut_bool Try.underlying4 _), (trodAll_cons_mk (Below.trod laidOut (by kernel_rfl) (of_decide_eq_true (by kernel_rfl)) k0 bel lt0) (trodAll_cons_mk (shut_int Try.underlying22 w1) trodAll_mk0)), rfl, bel.frame _, fun h => by cases h⟩

theorem over : Rows.windowOrderRow.holds Try.pinned (OpenSpec.ofChange Rows.windowOrderSpec) :=
  OpenClaim.holds_of_wide 6 Try.f6 rfl rfl rfl rfl rfl rfl rfl ⟨rfl, rfl, rfl, rfl, rfl⟩ rfl rfl rfl rfl rfl (by kernel_rfl) Try.func6 (by kernel_rfl)
    (of_decide_eq_true (by kernel_rfl)) (by unfold Func.isWrapper; first | (rw [if_pos (by decide +kernel)]; kernel_rfl) | (rw [if_neg (by decide +kernel)]; exact ⟨rfl, rfl⟩))
    (fun os started H enc _ => lifted os started H enc)

theorem proved : Rows.WindowOrderSaid := over
#print axioms proved
end Go.Proofs.Ytkdjlhnddnolaaa.windowOrder
